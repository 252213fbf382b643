/- WriteRecords: what the program answers. -/
import Derived.Test.YtamjljhbnhdgdaaDoorZWrI
namespace Go.Proofs.YtamjljhbnhdgdaaDoor
open Go.ChangeShapes Go.WideShapes Go.ChangeAt Go.RowKit
set_option linter.unusedVariables false
abbrev oWrJ0 : Oper := { dst := some 28, op := .load 31 (.tmp 2), type := 31, pos := "l07_store.go:194", after := #[], guard := none }
abbrev oWrJ1 : Oper := { dst := some 29, op := .move (.tmp 6), type := 51, pos := "l07_store.go:194", after := #[], guard := none }
abbrev oWrJ2 : Oper := { dst := some 30, op := .call { callee := .value (.func 20), args := #[.tmp 29], argTypes := #[51] }, type := 3, pos := "l07_store.go:194", after := #[{ on := 1, ground := .data }], guard := none }
abbrev oWrJ3 : Oper := { dst := none, op := .store 31 (.tmp 4) (.tmp 28), type := 0, pos := "l07_store.go:194", after := #[{ on := 0, ground := .data }, { on := 2, ground := .chain }, { on := 0, ground := .phase }, { on := 1, ground := .textOnly Go.Departure.lateStores }, { on := 2, ground := .textOnly Go.Departure.lateStoresUnsure }], guard := none }
abbrev oWrJ4 : Oper := { dst := some 5, op := .assign (.tmp 30), type := 3, pos := "l07_store.go:194", after := #[{ on := 2, ground := .data }, { on := 3, ground := .chain }, { on := 0, ground := .phase }, { on := 1, ground := .phase }, { on := 2, ground := .phase }, { on := 3, ground := .phase }], guard := none }
set_option maxHeartbeats 1000000 in
set_option maxRecDepth 100000 in
theorem iwrecs (d : ByteArray) (s : Int) (a : Option Addr) (cap n : Nat) (l : List ByteArray) (HN : Hid (l.length = n)) (hn : n ≤ 1048576) (HZ : Hid (∀ k (h : k < l.length), l[k].size ≤ 1048576)) (hd : Hid (d.size ≤ maxLen)) {x0 x1 x2 x3 x4 : Addr} (d2 : ByteArray) (s2 c : Int) (H : Hid (WrIs d s l d2 s2 c)) (w : World) (hE : StE w x0 x1 x2 x3 x4) (hr : RowV w a (cS l)) :
  Calls Tryd.prog 6 #[.agg #[.string d, .int .i64 s], .slice a n cap] w fun e w' => e = .returned (.tuple #[.agg #[.string d2, .int .i64 s2], .int .i64 c]) ∧ Below w.heap.size w w' := by
 have B0 := hide (Go.Joins.below_alloc2 w (.cells #[.string d, .int .i64 s] 31) (.cells #[.string ⟨#[]⟩, .int .i64 0] 31))
 have A0 := hide ((BF.new w #[.string d, .int .i64 s] 31).alloc (.cells #[.string ⟨#[]⟩, .int .i64 0] 31))
 have Z0 := hide (BF.new (w.alloc (.cells #[.string d, .int .i64 s] 31)) #[.string ⟨#[]⟩, .int .i64 0] 31)
 rw [show (w.alloc (.cells #[.string d, .int .i64 s] 31)).heap.size = w.heap.size + 1 from by simp] at Z0
 have HE := hide (hE.below (unhide B0))
 have HR := hide (hr.below (unhide B0))
 have HP := hide hE.pairs
 have a0 := (unhide A0).S
 clear hE hr
 rcases unhide H with ⟨h1, rfl, rfl, rfl⟩ | ⟨h1, h2, rfl, rfl, rfl⟩ | ⟨h1, h2, h3, rfl, rfl, rfl⟩ | ⟨h1, h2, h3, h4, h5, h6, rfl⟩ | ⟨h1, h2, h3, h4, rfl, h6, rfl⟩
 ·rw [unhide HN] at h1
  have b1 : (4096 : Int) < (n : Int) := by omega
  have kz := (unhide Z0).S
  have kf := (unhide Z0).F
  clear H
  go_enter Tryd.func6, Tryd.ntmps6
  go_wp2_with fail
  refine bodyPost_ret (v := .tuple #[.agg #[.string ⟨#[]⟩, .int .i64 0], .int .i64 2]) (by simp [results, Tryd.results6, go_sem]) rfl ⟨rfl, ?_⟩
  first | exact unhide B0 | (repeat refine Below.setCell ?_ (by exact Nat.le_succ _) _; exact unhide B0)
 ·rw [unhide HN] at h1
  have b1 : ¬ (4096 : Int) < (n : Int) := by omega
  have HOK := hide h2.symm
  clear H h2
  go_enter Tryd.func6, Tryd.ntmps6
  go_wp2_with fail
  refine (istoreok d s hd false HOK _).mono ?_
  rintro e w1 ⟨rfl, hb1⟩
  have B1 := hide ((unhide B0).trans (hb1.mono (unhide B0).size))
  have A1' := hide ((unhide A0).below hb1)
  have Z1' := hide ((unhide Z0).below hb1)
  clear hb1 A0 B0 Z0
  clear a0
  have ka := (unhide A1').S
  have kz := (unhide Z1').S
  have kf := (unhide Z1').F
  go_wp2_with fail
  refine bodyPost_ret (v := .tuple #[.agg #[.string ⟨#[]⟩, .int .i64 0], .int .i64 1]) (by simp [results, Tryd.results6, go_sem, kz]) rfl ⟨rfl, ?_⟩
  repeat refine Below.setCell ?_ (by first | exact Nat.le_succ _ | exact Nat.le_refl _) _
  exact unhide B1
 ·rw [unhide HN] at h1
  have b1 : ¬ (4096 : Int) < (n : Int) := by omega
  have HOK := hide h2.symm
  have HK := hide h3
  clear H h2 h3
  go_enter Tryd.func6, Tryd.ntmps6
  go_wp2_with fail
  refine (istoreok d s hd true HOK _).mono ?_
  rintro e w1 ⟨rfl, hb1⟩
  have B1 := hide ((unhide B0).trans (hb1.mono (unhide B0).size))
  have A1' := hide ((unhide A0).below hb1)
  have Z1' := hide ((unhide Z0).below hb1)
  have HE1 := hide ((unhide HE).below hb1)
  have HR1 := hide ((unhide HR).below hb1)
  clear hb1 A0 B0 Z0 HE HR a0
  go_wp2_with fail
  refine (iwrite_bad w.heap.size d s a cap n l HN h1 HZ d.size rfl (sto_parts (unhide HOK).symm).1 (unhide HK) _ (unhide A1') (unhide HE1) (unhide HR1)).mono ?_
  rintro e w2 ⟨rfl, hw⟩
  subst hw
  have g4 := (unhide HE1).g4
  have ka := (unhide A1').S
  have kz := (unhide Z1').S
  have kf := (unhide Z1').F
  go_wp2_with fail
  refine (iis x3 x4 false _ (.inr ⟨rfl, (unhide HP).2.2.2, (unhide HE1).b3, (unhide HE1).b4⟩)).mono ?_
  rintro e w3 ⟨rfl, hw⟩
  subst hw
  go_wp2_with fail
  refine (icode_3 _ (unhide HE1)).mono ?_
  rintro e w4 ⟨rfl, hw⟩
  subst hw
  go_wp2_with fail
  refine bodyPost_ret (v := .tuple #[.agg #[.string ⟨#[]⟩, .int .i64 0], .int .i64 4]) (by simp [results, Tryd.results6, go_sem, kz]) rfl ⟨rfl, ?_⟩
  repeat refine Below.setCell ?_ (by first | exact Nat.le_succ _ | exact Nat.le_refl _) _
  exact unhide B1
 ·rw [unhide HN] at h1
  have b1 : ¬ (4096 : Int) < (n : Int) := by omega
  have HOK := hide h2.symm
  have HK := hide h3
  have H4 := hide h4
  have h5' := h5.symm
  have h6' := h6.symm
  subst h5' h6'
  clear H h2 h3 h4
  go_enter Tryd.func6, Tryd.ntmps6
  go_wp2_with fail
  refine (istoreok d s hd true HOK _).mono ?_
  rintro e w1 ⟨rfl, hb1⟩
  have B1 := hide ((unhide B0).trans (hb1.mono (unhide B0).size))
  have A1' := hide ((unhide A0).below hb1)
  have Z1' := hide ((unhide Z0).below hb1)
  have HE1 := hide ((unhide HE).below hb1)
  have HR1 := hide ((unhide HR).below hb1)
  clear hb1 A0 B0 Z0 HE HR a0
  go_wp2_with fail
  refine (iwrite_full w.heap.size d s a cap n l HN h1 HZ d.size rfl (sto_parts (unhide HOK).symm).1 (unhide HK) H4 _ (unhide A1') (unhide HE1) (unhide HR1)).mono ?_
  rintro e w2 ⟨rfl, hw⟩
  subst hw
  have g4 := (unhide HE1).g4
  have ka := (unhide A1').S
  have kz := (unhide Z1').S
  have kf := (unhide Z1').F
  go_wp2_with fail
  refine (iis x4 x4 true _ (.inl ⟨rfl, rfl⟩)).mono ?_
  rintro e w3 ⟨rfl, hw⟩
  subst hw
  go_wp2_with fail
  have ZZ := Z1'
  have BB := B1
  refine wp_region_held_drew (S := fun w' => ∀ o, w'.cell? ⟨w.heap.size, o, none⟩ = (#[.string d, .int .i64 s] : Array Value)[o]?) (by kernel_rfl) (unhide A1').S (fun hHeld => ?_)
  refine wtv 0 (oi := oWrJ0) ?_
  refine wtv 1 (oi := oWrJ1) ?_
  have A9 := hide (unhide A1').drew
  have Z9 := hide (unhide ZZ).drew
  have B9 := hide (unhide BB).drew
  have HE9 := hide ((unhide HE1).below (Below.refl _ _).drew)
  generalize w3.drew = q2 at A9 Z9 B9 HE9 hHeld ⊢
  refine wpAnyH_ready (rs := [2]) (by kernel_rfl) (by simp) ?_
  refine AllReadyH.cons (o := oWrJ2) rfl (fun K hK => ?_) AllReadyH.nil
  go_simp
  refine (icode_4 _ (unhide HE9)).mono ?_
  rintro e q3 ⟨rfl, hw⟩
  subst hw
  go_wp2_with fail
  refine hK.out _ _ ?_ (fun hHeld2 => ?_)
  ·exact (unhide A9).S
  clear hK K
  try simp only [Act.put, qqA, qqB, qqC]
  refine wpAnyH_ready (rs := [3]) (by kernel_rfl) (by simp) ?_
  refine AllReadyH.cons (o := oWrJ3) rfl (fun K hK => ?_) AllReadyH.nil
  have kz := (unhide Z9).S
  have kf := (unhide Z9).F
  have A10 := hide (((unhide A9).far ⟨w.heap.size + 1, 0, none⟩ (.string d) (by show w.heap.size + 1 ≠ w.heap.size; omega)).far ⟨w.heap.size + 1, 1, none⟩ (.int .i64 s) (by show w.heap.size + 1 ≠ w.heap.size; omega))
  go_simp
  refine hK.out _ _ ?_ (fun hHeld3 => ?_)
  ·exact (unhide A10).S
  clear hK K
  try simp only [Act.put, qqA, qqB, qqC]
  refine wtv 4 (oi := oWrJ4) ?_
  refine wpAnyH_done (by kernel_rfl) ?_ _
  go_wp2_with fail
  refine bodyPost_ret (v := .tuple #[.agg #[.string d, .int .i64 s], .int .i64 7]) (by simp [results, Tryd.results6, go_sem, kz]) rfl ⟨rfl, ?_⟩
  repeat refine Below.setCell ?_ (by first | exact Nat.le_succ _ | exact Nat.le_refl _) _
  exact unhide B9
 ·rw [unhide HN] at h1
  have b1 : ¬ (4096 : Int) < (n : Int) := by omega
  have HOK := hide h2.symm
  have HK := hide h3
  have H4 := hide h4
  have h6' := h6.symm
  subst h6'
  clear H h2 h3 h4
  go_enter Tryd.func6, Tryd.ntmps6
  go_wp2_with fail
  refine (istoreok d s hd true HOK _).mono ?_
  rintro e w1 ⟨rfl, hb1⟩
  have B1 := hide ((unhide B0).trans (hb1.mono (unhide B0).size))
  have A1' := hide ((unhide A0).below hb1)
  have Z1' := hide ((unhide Z0).below hb1)
  have HE1 := hide ((unhide HE).below hb1)
  have HR1 := hide ((unhide HR).below hb1)
  clear hb1 A0 B0 Z0 HE HR a0
  go_wp2_with fail
  refine (iwrite_ok w.heap.size d s a cap n l HN h1 HZ d.size rfl (sto_parts (unhide HOK).symm).1 (unhide HK) H4 _ (unhide A1') (unhide HE1) (unhide HR1)).mono ?_
  rintro e w2 ⟨rfl, hg2, hB2⟩
  have A2 := hide hB2
  have ZZ := hide ((unhide Z1').grown hg2 (fun h => by injection h with h; omega))
  have BB := hide ((unhide B1).grown hg2 (unhide B1).size (fun k hk => by injection hk with hk; omega))
  clear hB2 hg2 HE1 HR1 A1' Z1' B1
  go_wp2_with fail
  refine wp_region_held_drew (S := fun w' => ∀ o, w'.cell? ⟨w.heap.size, o, none⟩ = (#[.string (wrD d l), .int .i64 s] : Array Value)[o]?) (by kernel_rfl) (unhide A2).S (fun hHeld => ?_)
  refine wtv 0 (oi := oWrJ0) ?_
  refine wtv 1 (oi := oWrJ1) ?_
  have A9 := hide (unhide A2).drew
  have Z9 := hide (unhide ZZ).drew
  have B9 := hide (unhide BB).drew
  generalize w2.drew = q2 at A9 Z9 B9 hHeld ⊢
  refine wpAnyH_ready (rs := [2]) (by kernel_rfl) (by simp) ?_
  refine AllReadyH.cons (o := oWrJ2) rfl (fun K hK => ?_) AllReadyH.nil
  go_simp
  refine (icode0 _).mono ?_
  rintro e q3 ⟨rfl, hw⟩
  subst hw
  go_wp2_with fail
  refine hK.out _ _ ?_ (fun hHeld2 => ?_)
  ·exact (unhide A9).S
  clear hK K
  try simp only [Act.put, qqA, qqB, qqC]
  refine wpAnyH_ready (rs := [3]) (by kernel_rfl) (by simp) ?_
  refine AllReadyH.cons (o := oWrJ3) rfl (fun K hK => ?_) AllReadyH.nil
  have kz := (unhide Z9).S
  have kf := (unhide Z9).F
  have A10 := hide (((unhide A9).far ⟨w.heap.size + 1, 0, none⟩ (.string (wrD d l)) (by show w.heap.size + 1 ≠ w.heap.size; omega)).far ⟨w.heap.size + 1, 1, none⟩ (.int .i64 s) (by show w.heap.size + 1 ≠ w.heap.size; omega))
  go_simp
  refine hK.out _ _ ?_ (fun hHeld3 => ?_)
  ·exact (unhide A10).S
  clear hK K
  try simp only [Act.put, qqA, qqB, qqC]
  refine wtv 4 (oi := oWrJ4) ?_
  refine wpAnyH_done (by kernel_rfl) ?_ _
  go_wp2_with fail
  refine bodyPost_ret (v := .tuple #[.agg #[.string (wrD d l), .int .i64 s], .int .i64 0]) (by simp [results, Tryd.results6, go_sem, kz]) rfl ⟨rfl, ?_⟩
  repeat refine Below.setCell ?_ (by first | exact Nat.le_succ _ | exact Nat.le_refl _) _
  exact unhide B9
end Go.Proofs.YtamjljhbnhdgdaaDoor
