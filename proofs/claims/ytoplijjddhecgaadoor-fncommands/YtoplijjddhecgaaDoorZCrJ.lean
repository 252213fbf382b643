/- ReadCommand: what the program answers, as a whole. -/
import Derived.Test.YtoplijjddhecgaaDoorZCrI
namespace Go.Proofs.YtoplijjddhecgaaDoor
open Go.ChangeShapes Go.WideShapes Go.ChangeAt Go.RowKit
set_option linter.unusedVariables false
theorem cm_zero {k cl sq p n ep : Int} {r : Bool} {nm dt : ByteArray} (h : Cm.zero = ⟨k, cl, sq, p, n, ep, r, nm, dt⟩) : 0 = k ∧ 0 = cl ∧ 0 = sq ∧ 0 = p ∧ 0 = n ∧ 0 = ep ∧ false = r ∧ ⟨#[]⟩ = nm ∧ ⟨#[]⟩ = dt := by
  unfold Cm.zero at h
  injection h with h0 h1 h2 h3 h4 h5 h6 h7 h8
  exact ⟨h0, h1, h2, h3, h4, h5, h6, h7, h8⟩
theorem zero_bad : Hid (false = cmdB 0 0 0 0 0 0 false ⟨#[]⟩ ⟨#[]⟩) := by show _ = _; simp [cmdB, inB]
theorem ibeq2 {b1 : Nat} {v1 : Value} {x y : List UInt8} {a : Option Addr} {cap len : Nat} (E : Bool) (HE : Hid (E = decide (x = y))) (HLEN : Hid (y.length = len)) (w : World) (h1 : w.ownsRow b1 5 1 v1 x.length (B8 x)) (h2 : RowV w a (B8 y)) :
    Calls Tryd.prog 20 #[v1, .slice a len cap] w fun e w' => e = .returned (.bool E) ∧ w' = w := by
  have c1 := conv_own (P := Tryd.prog) Tryd.underlying22 Tryd.underlying5 Tryd.underlying9 h1
  have c2 := conv_row8 (cap := cap) (P := Tryd.prog) Tryd.underlying22 Tryd.underlying5 Tryd.underlying9 (rowV_8 h2)
  rw [unhide HLEN] at c2
  obtain ⟨a1, n1, rfl, -⟩ := own_rowV h1
  have hE : ((⟨x.toArray⟩ : ByteArray).toList == (⟨y.toArray⟩ : ByteArray).toList) = E := by rw [unhide HE, ByteArray.toList_eq, ByteArray.toList_eq, Bool.eq_iff_iff]; simp
  clear h1 h2 HE HLEN
  generalize (⟨x.toArray⟩ : ByteArray) = X at *
  generalize (⟨y.toArray⟩ : ByteArray) = Y at *
  go_enter Tryd.func20, Tryd.ntmps20
  go_wp2_with fail
  go_ret
  exact ⟨rfl, rfl⟩
set_option maxHeartbeats 1000000 in
set_option maxRecDepth 100000 in
theorem irc_bad (a : Option Addr) (cap len : Nat) (d : Int) (m : List ByteArray) (ml : Nat) (hd : (d != 0) = true) (w : World) (T1 : Hid (∀ w1, Below w.heap.size w w1 → Calls Tryd.prog 18 #[.slice a len cap] w1 fun e w' => ∃ v', e = .returned (.tuple #[v', .int .i64 d]) ∧ w'.ownsRow w1.heap.size 9 1 v' ml (cS m) ∧ Below w1.heap.size w1 w')) :
    Calls Tryd.prog 8 #[.slice a len cap] w fun e w' => e = .returned (.tuple #[.agg #[.int .i64 0, .int .i64 0, .int .i64 0, .int .i64 0, .int .i64 0, .int .i64 0, .bool false, .string ⟨#[]⟩, .string ⟨#[]⟩], .int .i64 d]) ∧ Below w.heap.size w w' := by
  have HB := hide (Go.Joins.below_alloc1 w (Obj.cells #[.int .i64 0, .int .i64 0, .int .i64 0, .int .i64 0, .int .i64 0, .int .i64 0, .bool false, .string ⟨#[]⟩, .string ⟨#[]⟩] 24))
  have RS := hide (BF.new w #[.int .i64 0, .int .i64 0, .int .i64 0, .int .i64 0, .int .i64 0, .int .i64 0, .bool false, .string ⟨#[]⟩, .string ⟨#[]⟩] 24)
  go_enter Tryd.func8, Tryd.ntmps8
  go_wp2_with fail
  refine (unhide T1 _ (unhide HB)).mono ?_
  rintro e w1 ⟨v1, rfl, ho1, hb1⟩
  obtain ⟨a1, c1, rfl, -⟩ := own_rowV ho1
  have HB1 := hide ((unhide HB).trans (hb1.mono (unhide HB).size))
  have RS1 := hide ((unhide RS).below hb1)
  clear ho1 hb1 T1 HB RS
  have z := (unhide RS1).S
  have zf := (unhide RS1).F
  go_wp2_with fail
  refine bodyPost_ret (v := .tuple #[.agg #[.int .i64 0, .int .i64 0, .int .i64 0, .int .i64 0, .int .i64 0, .int .i64 0, .bool false, .string ⟨#[]⟩, .string ⟨#[]⟩], .int .i64 d]) (by simp [results, Tryd.results8, go_sem, z]) rfl ⟨rfl, ?_⟩
  iterate 9 refine Below.setCell ?_ (by exact Nat.le_refl _) _
  exact unhide HB1
set_option maxHeartbeats 1000000 in
set_option maxRecDepth 100000 in
theorem irc_len (a : Option Addr) (cap len : Nat) (m : List ByteArray) (ml : Nat) (h3 : ¬ ml = 3) (w : World) (T1 : Hid (∀ w1, Below w.heap.size w w1 → Calls Tryd.prog 18 #[.slice a len cap] w1 fun e w' => ∃ v', e = .returned (.tuple #[v', .int .i64 0]) ∧ w'.ownsRow w1.heap.size 9 1 v' ml (cS m) ∧ Below w1.heap.size w1 w')) :
    Calls Tryd.prog 8 #[.slice a len cap] w fun e w' => e = .returned (.tuple #[.agg #[.int .i64 0, .int .i64 0, .int .i64 0, .int .i64 0, .int .i64 0, .int .i64 0, .bool false, .string ⟨#[]⟩, .string ⟨#[]⟩], .int .i64 3]) ∧ Below w.heap.size w w' := by
  have HB := hide (Go.Joins.below_alloc1 w (Obj.cells #[.int .i64 0, .int .i64 0, .int .i64 0, .int .i64 0, .int .i64 0, .int .i64 0, .bool false, .string ⟨#[]⟩, .string ⟨#[]⟩] 24))
  have RS := hide (BF.new w #[.int .i64 0, .int .i64 0, .int .i64 0, .int .i64 0, .int .i64 0, .int .i64 0, .bool false, .string ⟨#[]⟩, .string ⟨#[]⟩] 24)
  go_enter Tryd.func8, Tryd.ntmps8
  go_wp2_with fail
  refine (unhide T1 _ (unhide HB)).mono ?_
  rintro e w1 ⟨v1, rfl, ho1, hb1⟩
  obtain ⟨a1, c1, rfl, -⟩ := own_rowV ho1
  have HB1 := hide ((unhide HB).trans (hb1.mono (unhide HB).size))
  have RS1 := hide ((unhide RS).below hb1)
  clear ho1 hb1 T1 HB RS
  go_wp2_with fail
  refine (icmdof_len _ _ _ h3 _).mono ?_
  rintro e w3 ⟨rfl, hb3⟩
  have HB3 := hide (((unhide HB1).trans (hb3.mono (unhide HB1).size)).alloc (Nat.le_trans (unhide HB1).size hb3.size) (Obj.cells #[.int .i64 0, .int .i64 0, .int .i64 0, .int .i64 0, .int .i64 0, .int .i64 0, .bool false, .string ⟨#[]⟩, .string ⟨#[]⟩] 24))
  have RS3 := hide (((unhide RS1).below hb3).alloc (Obj.cells #[.int .i64 0, .int .i64 0, .int .i64 0, .int .i64 0, .int .i64 0, .int .i64 0, .bool false, .string ⟨#[]⟩, .string ⟨#[]⟩] 24))
  have A3 := hide (BF.new w3 #[.int .i64 0, .int .i64 0, .int .i64 0, .int .i64 0, .int .i64 0, .int .i64 0, .bool false, .string ⟨#[]⟩, .string ⟨#[]⟩] 24)
  clear hb3 HB1 RS1
  have q := (unhide A3).S
  go_wp2_with fail
  refine (icmdb 0 0 0 0 0 0 false ⟨#[]⟩ ⟨#[]⟩ (show (0 : Nat) ≤ _ by omega) (show (0 : Nat) ≤ _ by omega) false zero_bad [] rfl 1 rfl _).mono ?_
  rintro e w5 ⟨v5, rfl, -, hb5⟩
  have HB5 := hide ((unhide HB3).trans (hb5.mono (unhide HB3).size))
  have RS5 := hide ((unhide RS3).below hb5)
  clear hb5 HB3 RS3 A3 q
  have z := (unhide RS5).S
  have zf := (unhide RS5).F
  go_wp2_with fail
  refine bodyPost_ret (v := .tuple #[.agg #[.int .i64 0, .int .i64 0, .int .i64 0, .int .i64 0, .int .i64 0, .int .i64 0, .bool false, .string ⟨#[]⟩, .string ⟨#[]⟩], .int .i64 3]) (by simp [results, Tryd.results8, go_sem, z]) rfl ⟨rfl, ?_⟩
  iterate 9 refine Below.setCell ?_ (by exact Nat.le_refl _) _
  exact unhide HB5
set_option maxHeartbeats 1000000 in
set_option maxRecDepth 100000 in
theorem irc_no (a : Option Addr) (cap len : Nat) (f0 nm dt : ByteArray) (hs : f0.size ≤ 20000) (h21 : ¬ f0.size = 21) (w : World) (T1 : Hid (∀ w1, Below w.heap.size w w1 → Calls Tryd.prog 18 #[.slice a len cap] w1 fun e w' => ∃ v', e = .returned (.tuple #[v', .int .i64 0]) ∧ w'.ownsRow w1.heap.size 9 1 v' 3 (cS [f0, nm, dt]) ∧ Below w1.heap.size w1 w')) :
    Calls Tryd.prog 8 #[.slice a len cap] w fun e w' => e = .returned (.tuple #[.agg #[.int .i64 0, .int .i64 0, .int .i64 0, .int .i64 0, .int .i64 0, .int .i64 0, .bool false, .string ⟨#[]⟩, .string ⟨#[]⟩], .int .i64 3]) ∧ Below w.heap.size w w' := by
  have HB := hide (Go.Joins.below_alloc1 w (Obj.cells #[.int .i64 0, .int .i64 0, .int .i64 0, .int .i64 0, .int .i64 0, .int .i64 0, .bool false, .string ⟨#[]⟩, .string ⟨#[]⟩] 24))
  have RS := hide (BF.new w #[.int .i64 0, .int .i64 0, .int .i64 0, .int .i64 0, .int .i64 0, .int .i64 0, .bool false, .string ⟨#[]⟩, .string ⟨#[]⟩] 24)
  have TN := hide (fun g cap w1 hr hg => icmdof_no g cap f0 nm dt hs h21 w1 hr hg)
  clear hs h21
  go_enter Tryd.func8, Tryd.ntmps8
  go_wp2_with fail
  refine (unhide T1 _ (unhide HB)).mono ?_
  rintro e w1 ⟨v1, rfl, ho1, hb1⟩
  obtain ⟨a1, c1, rfl, -⟩ := own_rowV ho1
  have HB1 := hide ((unhide HB).trans (hb1.mono (unhide HB).size))
  have RS1 := hide ((unhide RS).below hb1)
  obtain ⟨g1, rfl⟩ := own_at1 ho1 (by decide)
  have T3 := hide (unhide TN g1 c1 _ (fun i u hu => own_cell ho1 i u hu) (World.ownsRow.lt ho1 g1 rfl).2)
  clear ho1 hb1 T1 HB RS
  go_wp2_with fail
  refine (unhide T3).mono ?_
  rintro e w3 ⟨rfl, hb3⟩
  clear T3 TN
  have HB3 := hide (((unhide HB1).trans (hb3.mono (unhide HB1).size)).alloc (Nat.le_trans (unhide HB1).size hb3.size) (Obj.cells #[.int .i64 0, .int .i64 0, .int .i64 0, .int .i64 0, .int .i64 0, .int .i64 0, .bool false, .string ⟨#[]⟩, .string ⟨#[]⟩] 24))
  have RS3 := hide (((unhide RS1).below hb3).alloc (Obj.cells #[.int .i64 0, .int .i64 0, .int .i64 0, .int .i64 0, .int .i64 0, .int .i64 0, .bool false, .string ⟨#[]⟩, .string ⟨#[]⟩] 24))
  have A3 := hide (BF.new w3 #[.int .i64 0, .int .i64 0, .int .i64 0, .int .i64 0, .int .i64 0, .int .i64 0, .bool false, .string ⟨#[]⟩, .string ⟨#[]⟩] 24)
  clear hb3 HB1 RS1
  have q := (unhide A3).S
  go_wp2_with fail
  refine (icmdb 0 0 0 0 0 0 false ⟨#[]⟩ ⟨#[]⟩ (show (0 : Nat) ≤ _ by omega) (show (0 : Nat) ≤ _ by omega) false zero_bad [] rfl 1 rfl _).mono ?_
  rintro e w5 ⟨v5, rfl, -, hb5⟩
  have HB5 := hide ((unhide HB3).trans (hb5.mono (unhide HB3).size))
  have RS5 := hide ((unhide RS3).below hb5)
  clear hb5 HB3 RS3 A3 q
  have z := (unhide RS5).S
  have zf := (unhide RS5).F
  go_wp2_with fail
  refine bodyPost_ret (v := .tuple #[.agg #[.int .i64 0, .int .i64 0, .int .i64 0, .int .i64 0, .int .i64 0, .int .i64 0, .bool false, .string ⟨#[]⟩, .string ⟨#[]⟩], .int .i64 3]) (by simp [results, Tryd.results8, go_sem, z]) rfl ⟨rfl, ?_⟩
  iterate 9 refine Below.setCell ?_ (by exact Nat.le_refl _) _
  exact unhide HB5
set_option maxHeartbeats 1000000 in
set_option maxRecDepth 100000 in
theorem irc_f (a : Option Addr) (cap len : Nat) (f0 nm dt : ByteArray) (h21 : f0.size = 21) (x0 x1 x2 x3 x4 x5 x6 : Int) (hx : numsR f0.data.toList 7 = [x0, x1, x2, x3, x4, x5, x6]) (HNM : Hid (nm.size ≤ 1048576)) (HDT : Hid (dt.size ≤ 1048576)) (HOK : Hid (false = cmdB x0 x1 x2 x3 (x4 - 1000) x5 (x6 == 1) nm dt)) (w : World) (T1 : Hid (∀ w1, Below w.heap.size w w1 → Calls Tryd.prog 18 #[.slice a len cap] w1 fun e w' => ∃ v', e = .returned (.tuple #[v', .int .i64 0]) ∧ w'.ownsRow w1.heap.size 9 1 v' 3 (cS [f0, nm, dt]) ∧ Below w1.heap.size w1 w')) :
    Calls Tryd.prog 8 #[.slice a len cap] w fun e w' => e = .returned (.tuple #[.agg #[.int .i64 0, .int .i64 0, .int .i64 0, .int .i64 0, .int .i64 0, .int .i64 0, .bool false, .string ⟨#[]⟩, .string ⟨#[]⟩], .int .i64 3]) ∧ Below w.heap.size w w' := by
  have HB := hide (Go.Joins.below_alloc1 w (Obj.cells #[.int .i64 0, .int .i64 0, .int .i64 0, .int .i64 0, .int .i64 0, .int .i64 0, .bool false, .string ⟨#[]⟩, .string ⟨#[]⟩] 24))
  have RS := hide (BF.new w #[.int .i64 0, .int .i64 0, .int .i64 0, .int .i64 0, .int .i64 0, .int .i64 0, .bool false, .string ⟨#[]⟩, .string ⟨#[]⟩] 24)
  have TY := hide (fun g cap w1 hr hg => icmdof_yes g cap f0 nm dt h21 x0 x1 x2 x3 x4 x5 x6 hx w1 hr hg)
  clear hx h21
  go_enter Tryd.func8, Tryd.ntmps8
  go_wp2_with fail
  refine (unhide T1 _ (unhide HB)).mono ?_
  rintro e w1 ⟨v1, rfl, ho1, hb1⟩
  obtain ⟨a1, c1, rfl, -⟩ := own_rowV ho1
  have HB1 := hide ((unhide HB).trans (hb1.mono (unhide HB).size))
  have RS1 := hide ((unhide RS).below hb1)
  obtain ⟨g1, rfl⟩ := own_at1 ho1 (by decide)
  have T3 := hide (unhide TY g1 c1 _ (fun i u hu => own_cell ho1 i u hu) (World.ownsRow.lt ho1 g1 rfl).2)
  clear ho1 hb1 T1 HB RS
  go_wp2_with fail
  refine (unhide T3).mono ?_
  rintro e w3 ⟨rfl, hb3⟩
  clear T3 TY
  have HB3 := hide (((unhide HB1).trans (hb3.mono (unhide HB1).size)).alloc (Nat.le_trans (unhide HB1).size hb3.size) (Obj.cells #[.int .i64 x0, .int .i64 x1, .int .i64 x2, .int .i64 x3, .int .i64 (x4 - 1000), .int .i64 x5, .bool (x6 == 1), .string nm, .string dt] 24))
  have RS3 := hide (((unhide RS1).below hb3).alloc (Obj.cells #[.int .i64 x0, .int .i64 x1, .int .i64 x2, .int .i64 x3, .int .i64 (x4 - 1000), .int .i64 x5, .bool (x6 == 1), .string nm, .string dt] 24))
  have A3 := hide (BF.new w3 #[.int .i64 x0, .int .i64 x1, .int .i64 x2, .int .i64 x3, .int .i64 (x4 - 1000), .int .i64 x5, .bool (x6 == 1), .string nm, .string dt] 24)
  have hne3 : Hid (w.heap.size < w3.heap.size) := Nat.lt_of_lt_of_le (unhide RS1).lt hb3.size
  clear hb3 HB1 RS1
  have q := (unhide A3).S
  go_wp2_with fail
  refine (icmdb x0 x1 x2 x3 (x4 - 1000) x5 (x6 == 1) nm dt HNM HDT false HOK [] rfl 1 rfl _).mono ?_
  rintro e w5 ⟨v5, rfl, ho5, hb5⟩
  obtain ⟨a5, c5, rfl, -⟩ := own_rowV ho5
  have HB5 := hide ((unhide HB3).trans (hb5.mono (unhide HB3).size))
  have RS5 := hide ((unhide RS3).below hb5)
  have A5 := hide ((unhide A3).below hb5)
  have HO5 := hide ho5
  clear hb5 ho5 HB3 RS3 A3 q
  have z := (unhide RS5).S
  have zf := (unhide RS5).F
  go_wp2_with fail
  refine bodyPost_ret (v := .tuple #[.agg #[.int .i64 0, .int .i64 0, .int .i64 0, .int .i64 0, .int .i64 0, .int .i64 0, .bool false, .string ⟨#[]⟩, .string ⟨#[]⟩], .int .i64 3]) (by simp [results, Tryd.results8, go_sem, z]) rfl ⟨rfl, ?_⟩
  iterate 9 refine Below.setCell ?_ (by exact Nat.le_refl _) _
  exact unhide HB5
set_option maxHeartbeats 1000000 in
set_option maxRecDepth 100000 in
theorem irc_e (a : Option Addr) (cap len : Nat) (f0 nm dt : ByteArray) (h21 : f0.size = 21) (x0 x1 x2 x3 x4 x5 x6 : Int) (hx : numsR f0.data.toList 7 = [x0, x1, x2, x3, x4, x5, x6]) (HNM : Hid (nm.size ≤ 1048576)) (HDT : Hid (dt.size ≤ 1048576)) (HOK : Hid (true = cmdB x0 x1 x2 x3 (x4 - 1000) x5 (x6 == 1) nm dt)) (LB : List UInt8) (HLB : Hid (LB = cbV true x0 x1 x2 x3 (x4 - 1000) x5 (x6 == 1) nm dt)) (l : List UInt8) (HLEN : Hid (l.length = len)) (HEE : Hid (false = decide (LB = l))) (w : World) (HR : Hid (RowV w a (B8 l))) (T1 : Hid (∀ w1, Below w.heap.size w w1 → Calls Tryd.prog 18 #[.slice a len cap] w1 fun e w' => ∃ v', e = .returned (.tuple #[v', .int .i64 0]) ∧ w'.ownsRow w1.heap.size 9 1 v' 3 (cS [f0, nm, dt]) ∧ Below w1.heap.size w1 w')) :
    Calls Tryd.prog 8 #[.slice a len cap] w fun e w' => e = .returned (.tuple #[.agg #[.int .i64 0, .int .i64 0, .int .i64 0, .int .i64 0, .int .i64 0, .int .i64 0, .bool false, .string ⟨#[]⟩, .string ⟨#[]⟩], .int .i64 3]) ∧ Below w.heap.size w w' := by
  have HB := hide (Go.Joins.below_alloc1 w (Obj.cells #[.int .i64 0, .int .i64 0, .int .i64 0, .int .i64 0, .int .i64 0, .int .i64 0, .bool false, .string ⟨#[]⟩, .string ⟨#[]⟩] 24))
  have RS := hide (BF.new w #[.int .i64 0, .int .i64 0, .int .i64 0, .int .i64 0, .int .i64 0, .int .i64 0, .bool false, .string ⟨#[]⟩, .string ⟨#[]⟩] 24)
  have TY := hide (fun g cap w1 hr hg => icmdof_yes g cap f0 nm dt h21 x0 x1 x2 x3 x4 x5 x6 hx w1 hr hg)
  clear hx h21
  go_enter Tryd.func8, Tryd.ntmps8
  go_wp2_with fail
  refine (unhide T1 _ (unhide HB)).mono ?_
  rintro e w1 ⟨v1, rfl, ho1, hb1⟩
  obtain ⟨a1, c1, rfl, -⟩ := own_rowV ho1
  have HB1 := hide ((unhide HB).trans (hb1.mono (unhide HB).size))
  have RS1 := hide ((unhide RS).below hb1)
  obtain ⟨g1, rfl⟩ := own_at1 ho1 (by decide)
  have T3 := hide (unhide TY g1 c1 _ (fun i u hu => own_cell ho1 i u hu) (World.ownsRow.lt ho1 g1 rfl).2)
  clear ho1 hb1 T1 HB RS
  go_wp2_with fail
  refine (unhide T3).mono ?_
  rintro e w3 ⟨rfl, hb3⟩
  clear T3 TY
  have HB3 := hide (((unhide HB1).trans (hb3.mono (unhide HB1).size)).alloc (Nat.le_trans (unhide HB1).size hb3.size) (Obj.cells #[.int .i64 x0, .int .i64 x1, .int .i64 x2, .int .i64 x3, .int .i64 (x4 - 1000), .int .i64 x5, .bool (x6 == 1), .string nm, .string dt] 24))
  have RS3 := hide (((unhide RS1).below hb3).alloc (Obj.cells #[.int .i64 x0, .int .i64 x1, .int .i64 x2, .int .i64 x3, .int .i64 (x4 - 1000), .int .i64 x5, .bool (x6 == 1), .string nm, .string dt] 24))
  have A3 := hide (BF.new w3 #[.int .i64 x0, .int .i64 x1, .int .i64 x2, .int .i64 x3, .int .i64 (x4 - 1000), .int .i64 x5, .bool (x6 == 1), .string nm, .string dt] 24)
  have hne3 : Hid (w.heap.size < w3.heap.size) := Nat.lt_of_lt_of_le (unhide RS1).lt hb3.size
  clear hb3 HB1 RS1
  have q := (unhide A3).S
  go_wp2_with fail
  refine (icmdb x0 x1 x2 x3 (x4 - 1000) x5 (x6 == 1) nm dt HNM HDT true HOK LB HLB 0 rfl _).mono ?_
  rintro e w5 ⟨v5, rfl, ho5, hb5⟩
  obtain ⟨a5, c5, rfl, -⟩ := own_rowV ho5
  have HB5 := hide ((unhide HB3).trans (hb5.mono (unhide HB3).size))
  have RS5 := hide ((unhide RS3).below hb5)
  have A5 := hide ((unhide A3).below hb5)
  have HO5 := hide ho5
  clear hb5 ho5 HB3 RS3 A3 q
  go_wp2_with fail
  refine (ibeq2 false HEE HLEN _ (unhide HO5) ((unhide HR).below (unhide HB5))).mono ?_
  rintro e w6 ⟨rfl, hw⟩
  subst hw
  have z := (unhide RS5).S
  have zf := (unhide RS5).F
  go_wp2_with fail
  refine bodyPost_ret (v := .tuple #[.agg #[.int .i64 0, .int .i64 0, .int .i64 0, .int .i64 0, .int .i64 0, .int .i64 0, .bool false, .string ⟨#[]⟩, .string ⟨#[]⟩], .int .i64 3]) (by simp [results, Tryd.results8, go_sem, z]) rfl ⟨rfl, ?_⟩
  iterate 9 refine Below.setCell ?_ (by exact Nat.le_refl _) _
  exact unhide HB5
set_option maxHeartbeats 1000000 in
set_option maxRecDepth 100000 in
theorem irc_t (a : Option Addr) (cap len : Nat) (f0 nm dt : ByteArray) (h21 : f0.size = 21) (x0 x1 x2 x3 x4 x5 x6 : Int) (hx : numsR f0.data.toList 7 = [x0, x1, x2, x3, x4, x5, x6]) (HNM : Hid (nm.size ≤ 1048576)) (HDT : Hid (dt.size ≤ 1048576)) (HOK : Hid (true = cmdB x0 x1 x2 x3 (x4 - 1000) x5 (x6 == 1) nm dt)) (LB : List UInt8) (HLB : Hid (LB = cbV true x0 x1 x2 x3 (x4 - 1000) x5 (x6 == 1) nm dt)) (l : List UInt8) (HLEN : Hid (l.length = len)) (HEE : Hid (true = decide (LB = l))) (w : World) (HR : Hid (RowV w a (B8 l))) (T1 : Hid (∀ w1, Below w.heap.size w w1 → Calls Tryd.prog 18 #[.slice a len cap] w1 fun e w' => ∃ v', e = .returned (.tuple #[v', .int .i64 0]) ∧ w'.ownsRow w1.heap.size 9 1 v' 3 (cS [f0, nm, dt]) ∧ Below w1.heap.size w1 w')) :
    Calls Tryd.prog 8 #[.slice a len cap] w fun e w' => e = .returned (.tuple #[.agg #[.int .i64 x0, .int .i64 x1, .int .i64 x2, .int .i64 x3, .int .i64 (x4 - 1000), .int .i64 x5, .bool (x6 == 1), .string nm, .string dt], .int .i64 0]) ∧ Below w.heap.size w w' := by
  have HB := hide (Go.Joins.below_alloc1 w (Obj.cells #[.int .i64 0, .int .i64 0, .int .i64 0, .int .i64 0, .int .i64 0, .int .i64 0, .bool false, .string ⟨#[]⟩, .string ⟨#[]⟩] 24))
  have RS := hide (BF.new w #[.int .i64 0, .int .i64 0, .int .i64 0, .int .i64 0, .int .i64 0, .int .i64 0, .bool false, .string ⟨#[]⟩, .string ⟨#[]⟩] 24)
  have TY := hide (fun g cap w1 hr hg => icmdof_yes g cap f0 nm dt h21 x0 x1 x2 x3 x4 x5 x6 hx w1 hr hg)
  clear hx h21
  go_enter Tryd.func8, Tryd.ntmps8
  go_wp2_with fail
  refine (unhide T1 _ (unhide HB)).mono ?_
  rintro e w1 ⟨v1, rfl, ho1, hb1⟩
  obtain ⟨a1, c1, rfl, -⟩ := own_rowV ho1
  have HB1 := hide ((unhide HB).trans (hb1.mono (unhide HB).size))
  have RS1 := hide ((unhide RS).below hb1)
  obtain ⟨g1, rfl⟩ := own_at1 ho1 (by decide)
  have T3 := hide (unhide TY g1 c1 _ (fun i u hu => own_cell ho1 i u hu) (World.ownsRow.lt ho1 g1 rfl).2)
  clear ho1 hb1 T1 HB RS
  go_wp2_with fail
  refine (unhide T3).mono ?_
  rintro e w3 ⟨rfl, hb3⟩
  clear T3 TY
  have HB3 := hide (((unhide HB1).trans (hb3.mono (unhide HB1).size)).alloc (Nat.le_trans (unhide HB1).size hb3.size) (Obj.cells #[.int .i64 x0, .int .i64 x1, .int .i64 x2, .int .i64 x3, .int .i64 (x4 - 1000), .int .i64 x5, .bool (x6 == 1), .string nm, .string dt] 24))
  have RS3 := hide (((unhide RS1).below hb3).alloc (Obj.cells #[.int .i64 x0, .int .i64 x1, .int .i64 x2, .int .i64 x3, .int .i64 (x4 - 1000), .int .i64 x5, .bool (x6 == 1), .string nm, .string dt] 24))
  have A3 := hide (BF.new w3 #[.int .i64 x0, .int .i64 x1, .int .i64 x2, .int .i64 x3, .int .i64 (x4 - 1000), .int .i64 x5, .bool (x6 == 1), .string nm, .string dt] 24)
  have hne3 : Hid (w.heap.size < w3.heap.size) := Nat.lt_of_lt_of_le (unhide RS1).lt hb3.size
  clear hb3 HB1 RS1
  have q := (unhide A3).S
  go_wp2_with fail
  refine (icmdb x0 x1 x2 x3 (x4 - 1000) x5 (x6 == 1) nm dt HNM HDT true HOK LB HLB 0 rfl _).mono ?_
  rintro e w5 ⟨v5, rfl, ho5, hb5⟩
  obtain ⟨a5, c5, rfl, -⟩ := own_rowV ho5
  have HB5 := hide ((unhide HB3).trans (hb5.mono (unhide HB3).size))
  have RS5 := hide ((unhide RS3).below hb5)
  have A5 := hide ((unhide A3).below hb5)
  have HO5 := hide ho5
  clear hb5 ho5 HB3 RS3 A3 q
  go_wp2_with fail
  refine (ibeq2 true HEE HLEN _ (unhide HO5) ((unhide HR).below (unhide HB5))).mono ?_
  rintro e w6 ⟨rfl, hw⟩
  subst hw
  have z := (unhide RS5).S
  have zf := (unhide RS5).F
  have qa := (unhide A5).S
  have hne : ¬ w3.heap.size = w.heap.size := by have := unhide hne3; omega
  go_wp2_with fail
  refine bodyPost_ret (v := .tuple #[.agg #[.int .i64 x0, .int .i64 x1, .int .i64 x2, .int .i64 x3, .int .i64 (x4 - 1000), .int .i64 x5, .bool (x6 == 1), .string nm, .string dt], .int .i64 0]) (by simp [results, Tryd.results8, go_sem, z]) rfl ⟨rfl, ?_⟩
  iterate 9 refine Below.setCell ?_ (by exact Nat.le_refl _) _
  exact unhide HB5
theorem ireadcmd (a : Option Addr) (cap : Nat) (l : List UInt8) (hl : l.length ≤ 1048576) (hcap : l.length ≤ cap) (k cl sq p n ep : Int) (r : Bool) (nm dt : ByteArray) (hv : rcV l = ⟨k, cl, sq, p, n, ep, r, nm, dt⟩) (c : Int) (hc : c = rcC l) (w : World) (hr : RowV w a (B8 l)) (hE : ErrsIn w) :
    Calls Tryd.prog 8 #[.slice a l.length cap] w fun e w' => e = .returned (.tuple #[.agg #[.int .i64 k, .int .i64 cl, .int .i64 sq, .int .i64 p, .int .i64 n, .int .i64 ep, .bool r, .string nm, .string dt], .int .i64 c]) ∧ Below w.heap.size w w' := by
  obtain ⟨m, hm⟩ : ∃ m, m = rfL l := ⟨_, rfl⟩
  obtain ⟨d, hd⟩ : ∃ d, d = rfC l := ⟨_, rfl⟩
  have T1 : Hid (∀ w1, Below w.heap.size w w1 → Calls Tryd.prog 18 #[.slice a l.length cap] w1 fun e w' => ∃ v', e = .returned (.tuple #[v', .int .i64 d]) ∧ w'.ownsRow w1.heap.size 9 1 v' m.length (cS m) ∧ Below w1.heap.size w1 w') := fun w1 hb => ireadfieldsH a cap l m d hm hd hl hcap w1 (hr.below hb) (hE.below hb)
  by_cases hd0 : d = 0
  · have hlong : ¬ 65536 < l.length := fun h => by rw [hd] at hd0; unfold rfC at hd0; rw [if_pos h] at hd0; cases hd0
    obtain ⟨m', hm'⟩ : ∃ m', rfOf l = some m' := by
      cases h : rfOf l with
      | none => rw [hd] at hd0; unfold rfC at hd0; rw [if_neg hlong, h] at hd0; cases hd0
      | some x => exact ⟨x, rfl⟩
    have hmm : m = m' := by rw [hm]; unfold rfL; rw [if_neg hlong, hm']; rfl
    subst hmm
    have hsz := rf_sizes hlong hm'
    unfold rcV at hv
    unfold rcC at hc
    rw [if_neg hlong] at hv hc
    rw [hd0] at T1
    by_cases h3 : m.length = 3
    · obtain ⟨f0, nm', dt', rfl⟩ : ∃ f0 nm' dt', m = [f0, nm', dt'] := by
        match m, h3 with
        | [f0, nm', dt'], _ => exact ⟨f0, nm', dt', rfl⟩
      by_cases h21 : f0.size = 21
      · obtain ⟨x0, x1, x2, x3, x4, x5, x6, ex⟩ := seven (numsR_len f0.data.toList 7)
        have ec : cm3 f0 nm' dt' = ⟨x0, x1, x2, x3, x4 - 1000, x5, x6 == 1, nm', dt'⟩ := by unfold cm3; rw [ex]
        have HNM : Hid (nm'.size ≤ 1048576) := Nat.le_trans (hsz 1 (by simp)) (by decide)
        have HDT : Hid (dt'.size ≤ 1048576) := Nat.le_trans (hsz 2 (by simp)) (by decide)
        cases hok : cmdB x0 x1 x2 x3 (x4 - 1000) x5 (x6 == 1) nm' dt' with
        | false =>
          have hrc : rcOf l = none := by unfold rcOf; rw [hm']; simp only; rw [if_neg (fun h => by have := h.2.2; rw [ec] at this; exact absurd (hok.symm.trans this) (by decide))]
          rw [hrc] at hv hc
          have hc3 : c = 3 := hc
          replace hv : Cm.zero = ⟨k, cl, sq, p, n, ep, r, nm, dt⟩ := hv
          obtain ⟨rfl, rfl, rfl, rfl, rfl, rfl, rfl, rfl, rfl⟩ := cm_zero hv
          rw [hc3]
          exact irc_f a cap l.length f0 nm' dt' h21 x0 x1 x2 x3 x4 x5 x6 ex HNM HDT hok.symm w T1
        | true =>
          have hok3 : (cm3 f0 nm' dt').ok = true := by rw [ec]; exact hok
          have hb := rc_bytes hlong hm' h21 hok3
          obtain ⟨LB, hLB⟩ : ∃ LB, LB = (cm3 f0 nm' dt').bytes := ⟨_, rfl⟩
          have hLB2 : LB = cbV true x0 x1 x2 x3 (x4 - 1000) x5 (x6 == 1) nm' dt' := by rw [hLB, ec]; rfl
          rw [← hLB] at hb
          by_cases hE2 : LB = l
          · have hbb : bit3 f0 = true := hb.1 hE2
            have hrc : rcOf l = some (cm3 f0 nm' dt') := by unfold rcOf; rw [hm']; simp only; rw [if_pos ⟨h21, hbb, hok3⟩]
            rw [hrc, ec] at hv
            rw [hrc] at hc
            have hc3 : c = 0 := hc
            replace hv : (⟨x0, x1, x2, x3, x4 - 1000, x5, x6 == 1, nm', dt'⟩ : Cm) = ⟨k, cl, sq, p, n, ep, r, nm, dt⟩ := hv
            injection hv with v0 v1 v2 v3 v4 v5 v6 v7 v8
            rw [← v0, ← v1, ← v2, ← v3, ← v4, ← v5, ← v6, ← v7, ← v8, hc3]
            exact irc_t a cap l.length f0 nm' dt' h21 x0 x1 x2 x3 x4 x5 x6 ex HNM HDT hok.symm LB hLB2 l rfl (decide_eq_true hE2).symm w hr T1
          · have hnb : ¬ bit3 f0 = true := fun h => hE2 (hb.2 h)
            have hrc : rcOf l = none := by unfold rcOf; rw [hm']; simp only; rw [if_neg (fun h => hnb h.2.1)]
            rw [hrc] at hv hc
            have hc3 : c = 3 := hc
            replace hv : Cm.zero = ⟨k, cl, sq, p, n, ep, r, nm, dt⟩ := hv
            obtain ⟨rfl, rfl, rfl, rfl, rfl, rfl, rfl, rfl, rfl⟩ := cm_zero hv
            rw [hc3]
            exact irc_e a cap l.length f0 nm' dt' h21 x0 x1 x2 x3 x4 x5 x6 ex HNM HDT hok.symm LB hLB2 l rfl (decide_eq_false hE2).symm w hr T1
      · have hrc : rcOf l = none := by unfold rcOf; rw [hm']; simp only; rw [if_neg (fun h => h21 h.1)]
        rw [hrc] at hv hc
        have hc3 : c = 3 := hc
        replace hv : Cm.zero = ⟨k, cl, sq, p, n, ep, r, nm, dt⟩ := hv
        obtain ⟨rfl, rfl, rfl, rfl, rfl, rfl, rfl, rfl, rfl⟩ := cm_zero hv
        rw [hc3]
        exact irc_no a cap l.length f0 nm' dt' (hsz 0 (by simp)) h21 w T1
    · have hrc : rcOf l = none := by
        unfold rcOf
        rw [hm']
        split
        · rename_i e; injection e with e; rw [e] at h3; exact absurd rfl h3
        · rfl
      rw [hrc] at hv hc
      have hc3 : c = 3 := hc
      replace hv : Cm.zero = ⟨k, cl, sq, p, n, ep, r, nm, dt⟩ := hv
      obtain ⟨rfl, rfl, rfl, rfl, rfl, rfl, rfl, rfl, rfl⟩ := cm_zero hv
      rw [hc3]
      exact irc_len a cap l.length m m.length h3 w T1
  · have hv0 : rcV l = Cm.zero ∧ rcC l = d := by
      rw [hd] at hd0 ⊢
      unfold rcV rcC
      unfold rfC at hd0 ⊢
      by_cases hlong : 65536 < l.length
      · rw [if_pos hlong, if_pos hlong, if_pos hlong]; exact ⟨rfl, rfl⟩
      · rw [if_neg hlong] at hd0
        rw [if_neg hlong, if_neg hlong, if_neg hlong]
        cases h : rfOf l with
        | none => unfold rcOf; rw [h]; exact ⟨rfl, rfl⟩
        | some x => rw [h] at hd0; exact absurd rfl hd0
    rw [hv0.1] at hv
    rw [hv0.2] at hc
    obtain ⟨rfl, rfl, rfl, rfl, rfl, rfl, rfl, rfl, rfl⟩ := cm_zero hv
    rw [hc]
    exact irc_bad a cap l.length d m m.length (by rw [bne_iff_ne]; exact hd0) w T1
end Go.Proofs.YtoplijjddhecgaaDoor
