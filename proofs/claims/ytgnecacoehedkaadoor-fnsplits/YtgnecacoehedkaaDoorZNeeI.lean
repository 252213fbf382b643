/- (*tree).needs: what a tree needs. -/
import Derived.Test.YtgnecacoehedkaaDoorZOfI
import Derived.Test.YtgnecacoehedkaaDoorZG6
namespace Go.Proofs.YtgnecacoehedkaaDoor
open Go.ChangeShapes Go.WideShapes Go.ChangeAt Go.RowKit
attribute [local go_sem ↓] run_mx
abbrev oNeeI0 : Oper := { dst := some 12, op := .call { callee := .value (.func 53), args := #[.tmp 11], argTypes := #[45] }, type := 32, pos := "l05_layout.go:284", after := #[{ on := 3, ground := .data }], guard := none }
abbrev oNeeI1 : Oper := { dst := some 3, op := .alloc 32, type := 0, pos := "l05_layout.go:284", after := #[], guard := none }
abbrev oNeeI2 : Oper := { dst := some 4, op := .alloc 32, type := 0, pos := "l05_layout.go:284", after := #[], guard := none }
abbrev oNeeI3 : Oper := { dst := some 17, op := .call { callee := .value (.func 53), args := #[.tmp 16], argTypes := #[45] }, type := 32, pos := "l05_layout.go:284", after := #[{ on := 8, ground := .data }, { on := 4, ground := .chain }], guard := none }
abbrev oNeeI4 : Oper := { dst := none, op := .store 32 (.tmp 3) (.tmp 12), type := 0, pos := "l05_layout.go:284", after := #[{ on := 10, ground := .data }, { on := 4, ground := .data }, { on := 9, ground := .chain }, { on := 0, ground := .phase }, { on := 1, ground := .phase }, { on := 2, ground := .phase }, { on := 3, ground := .phase }, { on := 4, ground := .phase }, { on := 5, ground := .textOnly Go.Departure.lateStores }, { on := 6, ground := .textOnly Go.Departure.lateStores }, { on := 7, ground := .textOnly Go.Departure.lateStores }, { on := 8, ground := .textOnly Go.Departure.lateStores }, { on := 9, ground := .textOnly Go.Departure.lateStoresUnsure }, { on := 10, ground := .phase }, { on := 11, ground := .phase }], guard := none }
abbrev oNeeI5 : Oper := { dst := none, op := .store 32 (.tmp 4) (.tmp 17), type := 0, pos := "l05_layout.go:284", after := #[{ on := 11, ground := .data }, { on := 9, ground := .data }, { on := 12, ground := .chain }, { on := 0, ground := .phase }, { on := 1, ground := .phase }, { on := 2, ground := .phase }, { on := 3, ground := .phase }, { on := 4, ground := .phase }, { on := 5, ground := .phase }, { on := 6, ground := .phase }, { on := 7, ground := .phase }, { on := 8, ground := .phase }, { on := 9, ground := .phase }, { on := 10, ground := .phase }, { on := 11, ground := .phase }, { on := 12, ground := .phase }], guard := none }
theorem put5 {n : Nat} {a0 a1 a2 a3 a4 : Value} {w : World} (h : BF n #[a0, a1, a2, a3, a4] w) (v0 v1 v2 v3 v4 : Value) : BF n #[v0, v1, v2, v3, v4] (((((w.setCell ⟨n, 0, none⟩ v0).setCell ⟨n, 1, none⟩ v1).setCell ⟨n, 2, none⟩ v2).setCell ⟨n, 3, none⟩ v3).setCell ⟨n, 4, none⟩ v4) := by
 have := ((((h.set 0 (by simp) v0).set 1 (by simp) v1).set 2 (by simp) v2).set 3 (by simp) v3).set 4 (by simp) v4
 simpa using this
set_option maxHeartbeats 4000000 in
set_option maxRecDepth 100000 in
theorem ineeds : ∀ (t : Tr) (b : Nat) (bs : List Nat) (w : World), TreeAt iBx w t b bs → t.cnt ≤ 1000 →
  Calls Tryd.prog 53 #[.pointer (some ⟨b, 0, none⟩)] w fun e w' => e = .returned (.agg #[.int .i64 0, .int .i64 0, .int .i64 0, .int .i64 t.lw, .int .i64 t.lh]) ∧ Below w.heap.size w w' := by
 intro t
 induction t using Tr.ind with
 | pane n =>
  intro b bs w ht hcnt
  obtain ⟨rfl, hbf⟩ := ht
  have HBF := hide (hbf.alloc (.cells #[.int .i64 0, .int .i64 0, .int .i64 0, .int .i64 0, .int .i64 0] 32))
  have HB0 := hide (Go.Joins.below_alloc1 w (.cells #[.int .i64 0, .int .i64 0, .int .i64 0, .int .i64 0, .int .i64 0] 32))
  clear hbf
  go_enter Tryd.func53, Tryd.ntmps53
  go_wp2_with fail
  refine (ipane_pane b n _ (unhide HBF)).mono ?_
  rintro e w1 ⟨rfl, rfl⟩
  go_wp2_with fail
  refine bodyPost_ret (v := .agg #[.int .i64 0, .int .i64 0, .int .i64 0, .int .i64 2, .int .i64 2]) (by simp [results, Tryd.results53, go_sem]) rfl ⟨rfl, ?_⟩
  exact Go.Joins.below_alloc1 w _
 | split r s l t ihl ihr =>
  intro b bs w ht hcnt
  obtain ⟨bl, br, Ls, Rs, rfl, hbf, htl, htr⟩ := ht
  have HB0 := hide (Go.Joins.below_alloc1 w (.cells #[.int .i64 0, .int .i64 0, .int .i64 0, .int .i64 0, .int .i64 0] 32))
  have HBF := hide (hbf.alloc (.cells #[.int .i64 0, .int .i64 0, .int .i64 0, .int .i64 0, .int .i64 0] 32))
  have HTL := hide (htl.alloc (.cells #[.int .i64 0, .int .i64 0, .int .i64 0, .int .i64 0, .int .i64 0] 32))
  have HTR := hide (htr.alloc (.cells #[.int .i64 0, .int .i64 0, .int .i64 0, .int .i64 0, .int .i64 0] 32))
  have BR := hide (BF.new w #[.int .i64 0, .int .i64 0, .int .i64 0, .int .i64 0, .int .i64 0] 32)
  have HI := hide ihl
  have HJ := hide ihr
  simp only [Tr.cnt] at hcnt
  have HL1 : Hid (l.cnt ≤ 1000) := by show _ ≤ _; omega
  have HR1 : Hid (t.cnt ≤ 1000) := by show _ ≤ _; omega
  have bl1 := least_bd l
  have bl2 := least_bd t
  obtain ⟨aw, h1⟩ : ∃ x, x = l.lw := ⟨_, rfl⟩
  obtain ⟨ah, h2⟩ : ∃ x, x = l.lh := ⟨_, rfl⟩
  obtain ⟨cw, h3⟩ : ∃ x, x = t.lw := ⟨_, rfl⟩
  obtain ⟨ch, h4⟩ : ∃ x, x = t.lh := ⟨_, rfl⟩
  have HE1 := hide h1
  have HE2 := hide h2
  have HE3 := hide h3
  have HE4 := hide h4
  have bd : 2 ≤ aw ∧ aw ≤ 2000 ∧ 2 ≤ ah ∧ ah ≤ 2000 ∧ 2 ≤ cw ∧ cw ≤ 2000 ∧ 2 ≤ ch ∧ ch ≤ 2000 := by omega
  obtain ⟨XW, hXW⟩ : ∃ x, x = (Tr.split r s l t).lw := ⟨_, rfl⟩
  obtain ⟨XH, hXH⟩ : ∃ x, x = (Tr.split r s l t).lh := ⟨_, rfl⟩
  rw [← hXW, ← hXH]
  simp only [Tr.lw, ← h1, ← h3] at hXW
  simp only [Tr.lh, ← h2, ← h4] at hXH
  have HXW := hide hXW
  have HXH := hide hXH
  clear hbf htl htr ihl ihr hcnt bl1 bl2 h1 h2 h3 h4 hXW hXH
  go_enter Tryd.func53, Tryd.ntmps53
  go_wp2_with fail
  refine (ipane_split b r s bl br _ (unhide HBF)).mono ?_
  rintro e w1 ⟨rfl, hw⟩
  rw [← hw] at HB0 HBF HTL HTR BR
  clear hw
  have hblt := (unhide HBF).lt
  have c3 : w1.cell? ⟨b, 3, none⟩ = some (.pointer (some ⟨bl, 0, none⟩)) := (unhide HBF).S 3
  have c4 : w1.cell? ⟨b, 4, none⟩ = some (.pointer (some ⟨br, 0, none⟩)) := (unhide HBF).S 4
  go_wp2_with fail
  refine wp_region_held_drew (S := fun w' => w'.cell? ⟨b, 3, none⟩ = some (.pointer (some ⟨bl, 0, none⟩)) ∧ w'.cell? ⟨b, 4, none⟩ = some (.pointer (some ⟨br, 0, none⟩))) (by kernel_rfl) ⟨c3, c4⟩ (fun hHeld => ?_)
  refine wtv 0 (oi := { dst := some 8, op := .move (.tmp 0), type := 45, pos := "l05_layout.go:284", after := #[], guard := none }) ?_
  refine wtv 1 (oi := { dst := some 9, op := .nilCheck (.tmp 8), type := 0, pos := "l05_layout.go:284", after := #[{ on := 0, ground := .data }], guard := none }) ?_
  refine wtv 2 (oi := { dst := some 10, op := .fieldAddr 58 (.tmp 9) 3, type := 0, pos := "l05_layout.go:284", after := #[{ on := 1, ground := .data }], guard := none }) ?_
  refine wtv 3 (oi := { dst := some 11, op := .load 45 (.tmp 10), type := 45, pos := "l05_layout.go:284", after := #[{ on := 2, ground := .data }], guard := none }) ?_
  refine wtv 5 (oi := { dst := some 13, op := .move (.tmp 0), type := 45, pos := "l05_layout.go:284", after := #[], guard := none }) ?_
  refine wtv 6 (oi := { dst := some 14, op := .nilCheck (.tmp 13), type := 0, pos := "l05_layout.go:284", after := #[{ on := 5, ground := .data }], guard := none }) ?_
  refine wtv 7 (oi := { dst := some 15, op := .fieldAddr 58 (.tmp 14) 4, type := 0, pos := "l05_layout.go:284", after := #[{ on := 6, ground := .data }], guard := none }) ?_
  refine wtv 8 (oi := { dst := some 16, op := .load 45 (.tmp 15), type := 45, pos := "l05_layout.go:284", after := #[{ on := 7, ground := .data }], guard := none }) ?_
  have B0 : Hid (Below w1.heap.size w1 w1.drew) := (Below.refl _ _).drew
  generalize w1.drew = v0 at B0 hHeld ⊢
  refine wpAnyH_ready (rs := [4, 10, 11]) (by kernel_rfl) (by simp) ?_
  refine AllReadyH.cons (o := oNeeI0) rfl (fun K hK => ?_) (AllReadyH.cons (o := oNeeI1) rfl (fun K hK => ?_) (AllReadyH.cons (o := oNeeI2) rfl (fun K hK => ?_) (AllReadyH.nil)))
  ·skip
   go_simp
   refine (unhide HI bl Ls _ ((unhide HTL).below (unhide B0)) (unhide HL1)).mono ?_
   rw [← unhide HE1, ← unhide HE2]
   rintro e v1 ⟨rfl, hb⟩
   have B1 := hide ((unhide B0).trans (hb.mono (unhide B0).size))
   have S1 : v1.cell? ⟨b, 3, none⟩ = some (.pointer (some ⟨bl, 0, none⟩)) ∧ v1.cell? ⟨b, 4, none⟩ = some (.pointer (some ⟨br, 0, none⟩)) := ⟨((unhide B1).cell (p := ⟨b, 3, none⟩) hblt).trans c3, ((unhide B1).cell (p := ⟨b, 4, none⟩) hblt).trans c4⟩
   clear hb
   go_wp2_with fail
   refine hK.out _ _ ?_ (fun hHeld1 => ?_)
   ·exact S1
   clear hK K
   try simp only [Act.put, qqA, qqB, qqC]
   refine wpAnyH_ready (rs := [9, 10, 11]) (by kernel_rfl) (by simp) ?_
   refine AllReadyH.cons (o := oNeeI3) rfl (fun K hK => ?_) (AllReadyH.cons (o := oNeeI1) rfl (fun K hK => ?_) (AllReadyH.cons (o := oNeeI2) rfl (fun K hK => ?_) (AllReadyH.nil)))
   ·skip
    go_simp
    refine (unhide HJ br Rs _ ((unhide HTR).below (unhide B1)) (unhide HR1)).mono ?_
    rw [← unhide HE3, ← unhide HE4]
    rintro e v2 ⟨rfl, hb⟩
    have B2 := hide ((unhide B1).trans (hb.mono (unhide B1).size))
    have S2 : v2.cell? ⟨b, 3, none⟩ = some (.pointer (some ⟨bl, 0, none⟩)) ∧ v2.cell? ⟨b, 4, none⟩ = some (.pointer (some ⟨br, 0, none⟩)) := ⟨((unhide B2).cell (p := ⟨b, 3, none⟩) hblt).trans c3, ((unhide B2).cell (p := ⟨b, 4, none⟩) hblt).trans c4⟩
    clear hb
    go_wp2_with fail
    refine hK.out _ _ ?_ (fun hHeld2 => ?_)
    ·exact S2
    clear hK K
    try simp only [Act.put, qqA, qqB, qqC]
    refine wpAnyH_ready (rs := [10, 11]) (by kernel_rfl) (by simp) ?_
    refine AllReadyH.cons (o := oNeeI1) rfl (fun K hK => ?_) (AllReadyH.cons (o := oNeeI2) rfl (fun K hK => ?_) (AllReadyH.nil))
    ·skip
     have hb : Below v2.heap.size v2 (v2.alloc (.cells #[.int .i64 0, .int .i64 0, .int .i64 0, .int .i64 0, .int .i64 0] 32)) := (Below.refl _ _).alloc (Nat.le_refl _) _
     have P3 := hide (BF.new v2 #[.int .i64 0, .int .i64 0, .int .i64 0, .int .i64 0, .int .i64 0] 32)
     have B3 := hide ((unhide B2).trans (hb.mono (unhide B2).size))
     have S3 : (v2.alloc (.cells #[.int .i64 0, .int .i64 0, .int .i64 0, .int .i64 0, .int .i64 0] 32)).cell? ⟨b, 3, none⟩ = some (.pointer (some ⟨bl, 0, none⟩)) ∧ (v2.alloc (.cells #[.int .i64 0, .int .i64 0, .int .i64 0, .int .i64 0, .int .i64 0] 32)).cell? ⟨b, 4, none⟩ = some (.pointer (some ⟨br, 0, none⟩)) := ⟨((unhide B3).cell (p := ⟨b, 3, none⟩) hblt).trans c3, ((unhide B3).cell (p := ⟨b, 4, none⟩) hblt).trans c4⟩
     have pg3 : w1.heap.size ≤ v2.heap.size := (unhide B2).size
     clear hb
     go_simp
     refine hK.out _ _ ?_ (fun hHeld3 => ?_)
     ·exact S3
     clear hK K
     try simp only [Act.put, qqA, qqB, qqC]
     generalize v2.alloc (Obj.cells #[.int .i64 0, .int .i64 0, .int .i64 0, .int .i64 0, .int .i64 0] 32) = v3 at P3 B3 S3 hHeld3 ⊢
     generalize v2.heap.size = p3 at P3 pg3 ⊢
     refine wpAnyH_ready (rs := [11]) (by kernel_rfl) (by simp) ?_
     refine AllReadyH.cons (o := oNeeI2) rfl (fun K hK => ?_) (AllReadyH.nil)
     have hb : Below v3.heap.size v3 (v3.alloc (.cells #[.int .i64 0, .int .i64 0, .int .i64 0, .int .i64 0, .int .i64 0] 32)) := (Below.refl _ _).alloc (Nat.le_refl _) _
     have P4 := hide ((unhide P3).below hb)
     have Q4 := hide (BF.new v3 #[.int .i64 0, .int .i64 0, .int .i64 0, .int .i64 0, .int .i64 0] 32)
     have B4 := hide ((unhide B3).trans (hb.mono (unhide B3).size))
     have S4 : (v3.alloc (.cells #[.int .i64 0, .int .i64 0, .int .i64 0, .int .i64 0, .int .i64 0] 32)).cell? ⟨b, 3, none⟩ = some (.pointer (some ⟨bl, 0, none⟩)) ∧ (v3.alloc (.cells #[.int .i64 0, .int .i64 0, .int .i64 0, .int .i64 0, .int .i64 0] 32)).cell? ⟨b, 4, none⟩ = some (.pointer (some ⟨br, 0, none⟩)) := ⟨((unhide B4).cell (p := ⟨b, 3, none⟩) hblt).trans c3, ((unhide B4).cell (p := ⟨b, 4, none⟩) hblt).trans c4⟩
     have qg4 : w1.heap.size ≤ v3.heap.size := (unhide B3).size
     have ne4 : v3.heap.size ≠ p3 := Nat.ne_of_gt (unhide P3).lt
     clear hb
     go_simp
     refine hK.out _ _ ?_ (fun hHeld4 => ?_)
     ·exact S4
     clear hK K
     try simp only [Act.put, qqA, qqB, qqC]
     generalize v3.alloc (Obj.cells #[.int .i64 0, .int .i64 0, .int .i64 0, .int .i64 0, .int .i64 0] 32) = v4 at Q4 B4 S4 hHeld4 P4 ⊢
     generalize v3.heap.size = q4 at Q4 qg4 ne4 ⊢
     refine wpAnyH_ready (rs := [12]) (by kernel_rfl) (by simp) ?_
     refine AllReadyH.cons (o := oNeeI4) rfl (fun K hK => ?_) (AllReadyH.nil)
     have f5 := (unhide P4).S
     have f6 := (unhide P4).F
     have P5 := hide (put5 (unhide P4) (.int .i64 0) (.int .i64 0) (.int .i64 0) (.int .i64 aw) (.int .i64 ah))
     have Q5 := hide ((((((unhide Q4).far ⟨p3, 0, none⟩ (.int .i64 0) (ne4).symm).far ⟨p3, 1, none⟩ (.int .i64 0) (ne4).symm).far ⟨p3, 2, none⟩ (.int .i64 0) (ne4).symm).far ⟨p3, 3, none⟩ (.int .i64 aw) (ne4).symm).far ⟨p3, 4, none⟩ (.int .i64 ah) (ne4).symm)
     have B5 := hide ((((((unhide B4).setCell (p := ⟨p3, 0, none⟩) pg3 (.int .i64 0)).setCell (p := ⟨p3, 1, none⟩) pg3 (.int .i64 0)).setCell (p := ⟨p3, 2, none⟩) pg3 (.int .i64 0)).setCell (p := ⟨p3, 3, none⟩) pg3 (.int .i64 aw)).setCell (p := ⟨p3, 4, none⟩) pg3 (.int .i64 ah))
     have S5 : (((((v4.setCell ⟨p3, 0, none⟩ (.int .i64 0)).setCell ⟨p3, 1, none⟩ (.int .i64 0)).setCell ⟨p3, 2, none⟩ (.int .i64 0)).setCell ⟨p3, 3, none⟩ (.int .i64 aw)).setCell ⟨p3, 4, none⟩ (.int .i64 ah)).cell? ⟨b, 3, none⟩ = some (.pointer (some ⟨bl, 0, none⟩)) ∧ (((((v4.setCell ⟨p3, 0, none⟩ (.int .i64 0)).setCell ⟨p3, 1, none⟩ (.int .i64 0)).setCell ⟨p3, 2, none⟩ (.int .i64 0)).setCell ⟨p3, 3, none⟩ (.int .i64 aw)).setCell ⟨p3, 4, none⟩ (.int .i64 ah)).cell? ⟨b, 4, none⟩ = some (.pointer (some ⟨br, 0, none⟩)) := ⟨((unhide B5).cell (p := ⟨b, 3, none⟩) hblt).trans c3, ((unhide B5).cell (p := ⟨b, 4, none⟩) hblt).trans c4⟩
     go_simp
     clear f5 f6
     refine hK.out _ _ ?_ (fun hHeld5 => ?_)
     ·exact S5
     clear hK K
     try simp only [Act.put, qqA, qqB, qqC]
     generalize (((((v4.setCell ⟨p3, 0, none⟩ (.int .i64 0)).setCell ⟨p3, 1, none⟩ (.int .i64 0)).setCell ⟨p3, 2, none⟩ (.int .i64 0)).setCell ⟨p3, 3, none⟩ (.int .i64 aw)).setCell ⟨p3, 4, none⟩ (.int .i64 ah)) = v5 at P5 Q5 B5 S5 hHeld5 ⊢
     refine wpAnyH_ready (rs := [13]) (by kernel_rfl) (by simp) ?_
     refine AllReadyH.cons (o := oNeeI5) rfl (fun K hK => ?_) (AllReadyH.nil)
     have f5 := (unhide Q5).S
     have f6 := (unhide Q5).F
     have Q6 := hide (put5 (unhide Q5) (.int .i64 0) (.int .i64 0) (.int .i64 0) (.int .i64 cw) (.int .i64 ch))
     have P6 := hide ((((((unhide P5).far ⟨q4, 0, none⟩ (.int .i64 0) ne4).far ⟨q4, 1, none⟩ (.int .i64 0) ne4).far ⟨q4, 2, none⟩ (.int .i64 0) ne4).far ⟨q4, 3, none⟩ (.int .i64 cw) ne4).far ⟨q4, 4, none⟩ (.int .i64 ch) ne4)
     have B6 := hide ((((((unhide B5).setCell (p := ⟨q4, 0, none⟩) qg4 (.int .i64 0)).setCell (p := ⟨q4, 1, none⟩) qg4 (.int .i64 0)).setCell (p := ⟨q4, 2, none⟩) qg4 (.int .i64 0)).setCell (p := ⟨q4, 3, none⟩) qg4 (.int .i64 cw)).setCell (p := ⟨q4, 4, none⟩) qg4 (.int .i64 ch))
     have S6 : (((((v5.setCell ⟨q4, 0, none⟩ (.int .i64 0)).setCell ⟨q4, 1, none⟩ (.int .i64 0)).setCell ⟨q4, 2, none⟩ (.int .i64 0)).setCell ⟨q4, 3, none⟩ (.int .i64 cw)).setCell ⟨q4, 4, none⟩ (.int .i64 ch)).cell? ⟨b, 3, none⟩ = some (.pointer (some ⟨bl, 0, none⟩)) ∧ (((((v5.setCell ⟨q4, 0, none⟩ (.int .i64 0)).setCell ⟨q4, 1, none⟩ (.int .i64 0)).setCell ⟨q4, 2, none⟩ (.int .i64 0)).setCell ⟨q4, 3, none⟩ (.int .i64 cw)).setCell ⟨q4, 4, none⟩ (.int .i64 ch)).cell? ⟨b, 4, none⟩ = some (.pointer (some ⟨br, 0, none⟩)) := ⟨((unhide B6).cell (p := ⟨b, 3, none⟩) hblt).trans c3, ((unhide B6).cell (p := ⟨b, 4, none⟩) hblt).trans c4⟩
     go_simp
     clear f5 f6
     refine hK.out _ _ ?_ (fun hHeld6 => ?_)
     ·exact S6
     clear hK K
     try simp only [Act.put, qqA, qqB, qqC]
     generalize (((((v5.setCell ⟨q4, 0, none⟩ (.int .i64 0)).setCell ⟨q4, 1, none⟩ (.int .i64 0)).setCell ⟨q4, 2, none⟩ (.int .i64 0)).setCell ⟨q4, 3, none⟩ (.int .i64 cw)).setCell ⟨q4, 4, none⟩ (.int .i64 ch)) = v6 at Q6 P6 B6 S6 hHeld6 ⊢
     refine wpAnyH_done (by kernel_rfl) ?_ _
     have cp := (unhide P6).S
     have cq := (unhide Q6).S
     have cb := (unhide HBF).below (unhide B6)
     have cr := (unhide BR).below (unhide B6)
     have cb1 : v6.cell? ⟨b, 1, none⟩ = some (.bool r) := cb.S 1
     have cr1 := cr.S
     have cr2 := cr.F
     have HBZ := hide ((unhide HB0).trans ((unhide B6).mono (unhide HB0).size))
     have f0 := hide (put5 cr (.int .i64 0) (.int .i64 0) (.int .i64 0) (.int .i64 (aw + cw)) (.int .i64 (mx ah ch)))
     have f1 := hide (put5 cr (.int .i64 0) (.int .i64 0) (.int .i64 0) (.int .i64 (mx aw cw)) (.int .i64 (ah + ch)))
     clear cb cr c3 c4
     cases r
     ·have hx : XW = aw + cw := by simpa using unhide HXW
      have hy : XH = mx ah ch := by simpa using unhide HXH
      clear HXW HXH
      subst hx hy
      go_wp2_with fail
      have f2 := (unhide f0).S
      refine bodyPost_ret (v := .agg #[.int .i64 0, .int .i64 0, .int .i64 0, .int .i64 (aw + cw), .int .i64 (mx ah ch)]) (by simp [results, Tryd.results53, go_sem, f2]) rfl ⟨rfl, ?_⟩
      iterate 5 refine Below.setCell ?_ (by exact Nat.le_refl _) _
      exact unhide HBZ
     ·have hx : XW = mx aw cw := by simpa using unhide HXW
      have hy : XH = ah + ch := by simpa using unhide HXH
      clear HXW HXH
      subst hx hy
      go_wp2_with fail
      have f2 := (unhide f1).S
      refine bodyPost_ret (v := .agg #[.int .i64 0, .int .i64 0, .int .i64 0, .int .i64 (mx aw cw), .int .i64 (ah + ch)]) (by simp [results, Tryd.results53, go_sem, f2]) rfl ⟨rfl, ?_⟩
      iterate 5 refine Below.setCell ?_ (by exact Nat.le_refl _) _
      exact unhide HBZ
    ·skip
     have hb : Below v2.heap.size v2 (v2.alloc (.cells #[.int .i64 0, .int .i64 0, .int .i64 0, .int .i64 0, .int .i64 0] 32)) := (Below.refl _ _).alloc (Nat.le_refl _) _
     have Q7 := hide (BF.new v2 #[.int .i64 0, .int .i64 0, .int .i64 0, .int .i64 0, .int .i64 0] 32)
     have B7 := hide ((unhide B2).trans (hb.mono (unhide B2).size))
     have S7 : (v2.alloc (.cells #[.int .i64 0, .int .i64 0, .int .i64 0, .int .i64 0, .int .i64 0] 32)).cell? ⟨b, 3, none⟩ = some (.pointer (some ⟨bl, 0, none⟩)) ∧ (v2.alloc (.cells #[.int .i64 0, .int .i64 0, .int .i64 0, .int .i64 0, .int .i64 0] 32)).cell? ⟨b, 4, none⟩ = some (.pointer (some ⟨br, 0, none⟩)) := ⟨((unhide B7).cell (p := ⟨b, 3, none⟩) hblt).trans c3, ((unhide B7).cell (p := ⟨b, 4, none⟩) hblt).trans c4⟩
     have qg7 : w1.heap.size ≤ v2.heap.size := (unhide B2).size
     clear hb
     go_simp
     refine hK.out _ _ ?_ (fun hHeld7 => ?_)
     ·exact S7
     clear hK K
     try simp only [Act.put, qqA, qqB, qqC]
     generalize v2.alloc (Obj.cells #[.int .i64 0, .int .i64 0, .int .i64 0, .int .i64 0, .int .i64 0] 32) = v7 at Q7 B7 S7 hHeld7 ⊢
     generalize v2.heap.size = q7 at Q7 qg7 ⊢
     refine wpAnyH_ready (rs := [10]) (by kernel_rfl) (by simp) ?_
     refine AllReadyH.cons (o := oNeeI1) rfl (fun K hK => ?_) (AllReadyH.nil)
     have hb : Below v7.heap.size v7 (v7.alloc (.cells #[.int .i64 0, .int .i64 0, .int .i64 0, .int .i64 0, .int .i64 0] 32)) := (Below.refl _ _).alloc (Nat.le_refl _) _
     have Q8 := hide ((unhide Q7).below hb)
     have P8 := hide (BF.new v7 #[.int .i64 0, .int .i64 0, .int .i64 0, .int .i64 0, .int .i64 0] 32)
     have B8 := hide ((unhide B7).trans (hb.mono (unhide B7).size))
     have S8 : (v7.alloc (.cells #[.int .i64 0, .int .i64 0, .int .i64 0, .int .i64 0, .int .i64 0] 32)).cell? ⟨b, 3, none⟩ = some (.pointer (some ⟨bl, 0, none⟩)) ∧ (v7.alloc (.cells #[.int .i64 0, .int .i64 0, .int .i64 0, .int .i64 0, .int .i64 0] 32)).cell? ⟨b, 4, none⟩ = some (.pointer (some ⟨br, 0, none⟩)) := ⟨((unhide B8).cell (p := ⟨b, 3, none⟩) hblt).trans c3, ((unhide B8).cell (p := ⟨b, 4, none⟩) hblt).trans c4⟩
     have pg8 : w1.heap.size ≤ v7.heap.size := (unhide B7).size
     have ne8 : v7.heap.size ≠ q7 := Nat.ne_of_gt (unhide Q7).lt
     clear hb
     go_simp
     refine hK.out _ _ ?_ (fun hHeld8 => ?_)
     ·exact S8
     clear hK K
     try simp only [Act.put, qqA, qqB, qqC]
     generalize v7.alloc (Obj.cells #[.int .i64 0, .int .i64 0, .int .i64 0, .int .i64 0, .int .i64 0] 32) = v8 at P8 B8 S8 hHeld8 Q8 ⊢
     generalize v7.heap.size = p8 at P8 pg8 ne8 ⊢
     refine wpAnyH_ready (rs := [12]) (by kernel_rfl) (by simp) ?_
     refine AllReadyH.cons (o := oNeeI4) rfl (fun K hK => ?_) (AllReadyH.nil)
     have f5 := (unhide P8).S
     have f6 := (unhide P8).F
     have P9 := hide (put5 (unhide P8) (.int .i64 0) (.int .i64 0) (.int .i64 0) (.int .i64 aw) (.int .i64 ah))
     have Q9 := hide ((((((unhide Q8).far ⟨p8, 0, none⟩ (.int .i64 0) ne8).far ⟨p8, 1, none⟩ (.int .i64 0) ne8).far ⟨p8, 2, none⟩ (.int .i64 0) ne8).far ⟨p8, 3, none⟩ (.int .i64 aw) ne8).far ⟨p8, 4, none⟩ (.int .i64 ah) ne8)
     have B9 := hide ((((((unhide B8).setCell (p := ⟨p8, 0, none⟩) pg8 (.int .i64 0)).setCell (p := ⟨p8, 1, none⟩) pg8 (.int .i64 0)).setCell (p := ⟨p8, 2, none⟩) pg8 (.int .i64 0)).setCell (p := ⟨p8, 3, none⟩) pg8 (.int .i64 aw)).setCell (p := ⟨p8, 4, none⟩) pg8 (.int .i64 ah))
     have S9 : (((((v8.setCell ⟨p8, 0, none⟩ (.int .i64 0)).setCell ⟨p8, 1, none⟩ (.int .i64 0)).setCell ⟨p8, 2, none⟩ (.int .i64 0)).setCell ⟨p8, 3, none⟩ (.int .i64 aw)).setCell ⟨p8, 4, none⟩ (.int .i64 ah)).cell? ⟨b, 3, none⟩ = some (.pointer (some ⟨bl, 0, none⟩)) ∧ (((((v8.setCell ⟨p8, 0, none⟩ (.int .i64 0)).setCell ⟨p8, 1, none⟩ (.int .i64 0)).setCell ⟨p8, 2, none⟩ (.int .i64 0)).setCell ⟨p8, 3, none⟩ (.int .i64 aw)).setCell ⟨p8, 4, none⟩ (.int .i64 ah)).cell? ⟨b, 4, none⟩ = some (.pointer (some ⟨br, 0, none⟩)) := ⟨((unhide B9).cell (p := ⟨b, 3, none⟩) hblt).trans c3, ((unhide B9).cell (p := ⟨b, 4, none⟩) hblt).trans c4⟩
     go_simp
     clear f5 f6
     refine hK.out _ _ ?_ (fun hHeld9 => ?_)
     ·exact S9
     clear hK K
     try simp only [Act.put, qqA, qqB, qqC]
     generalize (((((v8.setCell ⟨p8, 0, none⟩ (.int .i64 0)).setCell ⟨p8, 1, none⟩ (.int .i64 0)).setCell ⟨p8, 2, none⟩ (.int .i64 0)).setCell ⟨p8, 3, none⟩ (.int .i64 aw)).setCell ⟨p8, 4, none⟩ (.int .i64 ah)) = v9 at P9 Q9 B9 S9 hHeld9 ⊢
     refine wpAnyH_ready (rs := [13]) (by kernel_rfl) (by simp) ?_
     refine AllReadyH.cons (o := oNeeI5) rfl (fun K hK => ?_) (AllReadyH.nil)
     have f5 := (unhide Q9).S
     have f6 := (unhide Q9).F
     have Q10 := hide (put5 (unhide Q9) (.int .i64 0) (.int .i64 0) (.int .i64 0) (.int .i64 cw) (.int .i64 ch))
     have P10 := hide ((((((unhide P9).far ⟨q7, 0, none⟩ (.int .i64 0) (ne8).symm).far ⟨q7, 1, none⟩ (.int .i64 0) (ne8).symm).far ⟨q7, 2, none⟩ (.int .i64 0) (ne8).symm).far ⟨q7, 3, none⟩ (.int .i64 cw) (ne8).symm).far ⟨q7, 4, none⟩ (.int .i64 ch) (ne8).symm)
     have B10 := hide ((((((unhide B9).setCell (p := ⟨q7, 0, none⟩) qg7 (.int .i64 0)).setCell (p := ⟨q7, 1, none⟩) qg7 (.int .i64 0)).setCell (p := ⟨q7, 2, none⟩) qg7 (.int .i64 0)).setCell (p := ⟨q7, 3, none⟩) qg7 (.int .i64 cw)).setCell (p := ⟨q7, 4, none⟩) qg7 (.int .i64 ch))
     have S10 : (((((v9.setCell ⟨q7, 0, none⟩ (.int .i64 0)).setCell ⟨q7, 1, none⟩ (.int .i64 0)).setCell ⟨q7, 2, none⟩ (.int .i64 0)).setCell ⟨q7, 3, none⟩ (.int .i64 cw)).setCell ⟨q7, 4, none⟩ (.int .i64 ch)).cell? ⟨b, 3, none⟩ = some (.pointer (some ⟨bl, 0, none⟩)) ∧ (((((v9.setCell ⟨q7, 0, none⟩ (.int .i64 0)).setCell ⟨q7, 1, none⟩ (.int .i64 0)).setCell ⟨q7, 2, none⟩ (.int .i64 0)).setCell ⟨q7, 3, none⟩ (.int .i64 cw)).setCell ⟨q7, 4, none⟩ (.int .i64 ch)).cell? ⟨b, 4, none⟩ = some (.pointer (some ⟨br, 0, none⟩)) := ⟨((unhide B10).cell (p := ⟨b, 3, none⟩) hblt).trans c3, ((unhide B10).cell (p := ⟨b, 4, none⟩) hblt).trans c4⟩
     go_simp
     clear f5 f6
     refine hK.out _ _ ?_ (fun hHeld10 => ?_)
     ·exact S10
     clear hK K
     try simp only [Act.put, qqA, qqB, qqC]
     generalize (((((v9.setCell ⟨q7, 0, none⟩ (.int .i64 0)).setCell ⟨q7, 1, none⟩ (.int .i64 0)).setCell ⟨q7, 2, none⟩ (.int .i64 0)).setCell ⟨q7, 3, none⟩ (.int .i64 cw)).setCell ⟨q7, 4, none⟩ (.int .i64 ch)) = v10 at Q10 P10 B10 S10 hHeld10 ⊢
     refine wpAnyH_done (by kernel_rfl) ?_ _
     have cp := (unhide P10).S
     have cq := (unhide Q10).S
     have cb := (unhide HBF).below (unhide B10)
     have cr := (unhide BR).below (unhide B10)
     have cb1 : v10.cell? ⟨b, 1, none⟩ = some (.bool r) := cb.S 1
     have cr1 := cr.S
     have cr2 := cr.F
     have HBZ := hide ((unhide HB0).trans ((unhide B10).mono (unhide HB0).size))
     have f0 := hide (put5 cr (.int .i64 0) (.int .i64 0) (.int .i64 0) (.int .i64 (aw + cw)) (.int .i64 (mx ah ch)))
     have f1 := hide (put5 cr (.int .i64 0) (.int .i64 0) (.int .i64 0) (.int .i64 (mx aw cw)) (.int .i64 (ah + ch)))
     clear cb cr c3 c4
     cases r
     ·have hx : XW = aw + cw := by simpa using unhide HXW
      have hy : XH = mx ah ch := by simpa using unhide HXH
      clear HXW HXH
      subst hx hy
      go_wp2_with fail
      have f2 := (unhide f0).S
      refine bodyPost_ret (v := .agg #[.int .i64 0, .int .i64 0, .int .i64 0, .int .i64 (aw + cw), .int .i64 (mx ah ch)]) (by simp [results, Tryd.results53, go_sem, f2]) rfl ⟨rfl, ?_⟩
      iterate 5 refine Below.setCell ?_ (by exact Nat.le_refl _) _
      exact unhide HBZ
     ·have hx : XW = mx aw cw := by simpa using unhide HXW
      have hy : XH = ah + ch := by simpa using unhide HXH
      clear HXW HXH
      subst hx hy
      go_wp2_with fail
      have f2 := (unhide f1).S
      refine bodyPost_ret (v := .agg #[.int .i64 0, .int .i64 0, .int .i64 0, .int .i64 (mx aw cw), .int .i64 (ah + ch)]) (by simp [results, Tryd.results53, go_sem, f2]) rfl ⟨rfl, ?_⟩
      iterate 5 refine Below.setCell ?_ (by exact Nat.le_refl _) _
      exact unhide HBZ
   ·skip
    have hb : Below v1.heap.size v1 (v1.alloc (.cells #[.int .i64 0, .int .i64 0, .int .i64 0, .int .i64 0, .int .i64 0] 32)) := (Below.refl _ _).alloc (Nat.le_refl _) _
    have P11 := hide (BF.new v1 #[.int .i64 0, .int .i64 0, .int .i64 0, .int .i64 0, .int .i64 0] 32)
    have B11 := hide ((unhide B1).trans (hb.mono (unhide B1).size))
    have S11 : (v1.alloc (.cells #[.int .i64 0, .int .i64 0, .int .i64 0, .int .i64 0, .int .i64 0] 32)).cell? ⟨b, 3, none⟩ = some (.pointer (some ⟨bl, 0, none⟩)) ∧ (v1.alloc (.cells #[.int .i64 0, .int .i64 0, .int .i64 0, .int .i64 0, .int .i64 0] 32)).cell? ⟨b, 4, none⟩ = some (.pointer (some ⟨br, 0, none⟩)) := ⟨((unhide B11).cell (p := ⟨b, 3, none⟩) hblt).trans c3, ((unhide B11).cell (p := ⟨b, 4, none⟩) hblt).trans c4⟩
    have pg11 : w1.heap.size ≤ v1.heap.size := (unhide B1).size
    clear hb
    go_simp
    refine hK.out _ _ ?_ (fun hHeld11 => ?_)
    ·exact S11
    clear hK K
    try simp only [Act.put, qqA, qqB, qqC]
    generalize v1.alloc (Obj.cells #[.int .i64 0, .int .i64 0, .int .i64 0, .int .i64 0, .int .i64 0] 32) = v11 at P11 B11 S11 hHeld11 ⊢
    generalize v1.heap.size = p11 at P11 pg11 ⊢
    refine wpAnyH_ready (rs := [9, 11]) (by kernel_rfl) (by simp) ?_
    refine AllReadyH.cons (o := oNeeI3) rfl (fun K hK => ?_) (AllReadyH.cons (o := oNeeI2) rfl (fun K hK => ?_) (AllReadyH.nil))
    ·skip
     go_simp
     refine (unhide HJ br Rs _ ((unhide HTR).below (unhide B11)) (unhide HR1)).mono ?_
     rw [← unhide HE3, ← unhide HE4]
     rintro e v12 ⟨rfl, hb⟩
     have P12 := hide ((unhide P11).below hb)
     have B12 := hide ((unhide B11).trans (hb.mono (unhide B11).size))
     have S12 : v12.cell? ⟨b, 3, none⟩ = some (.pointer (some ⟨bl, 0, none⟩)) ∧ v12.cell? ⟨b, 4, none⟩ = some (.pointer (some ⟨br, 0, none⟩)) := ⟨((unhide B12).cell (p := ⟨b, 3, none⟩) hblt).trans c3, ((unhide B12).cell (p := ⟨b, 4, none⟩) hblt).trans c4⟩
     clear hb
     go_wp2_with fail
     refine hK.out _ _ ?_ (fun hHeld12 => ?_)
     ·exact S12
     clear hK K
     try simp only [Act.put, qqA, qqB, qqC]
     refine wpAnyH_ready (rs := [11]) (by kernel_rfl) (by simp) ?_
     refine AllReadyH.cons (o := oNeeI2) rfl (fun K hK => ?_) (AllReadyH.nil)
     have hb : Below v12.heap.size v12 (v12.alloc (.cells #[.int .i64 0, .int .i64 0, .int .i64 0, .int .i64 0, .int .i64 0] 32)) := (Below.refl _ _).alloc (Nat.le_refl _) _
     have P13 := hide ((unhide P12).below hb)
     have Q13 := hide (BF.new v12 #[.int .i64 0, .int .i64 0, .int .i64 0, .int .i64 0, .int .i64 0] 32)
     have B13 := hide ((unhide B12).trans (hb.mono (unhide B12).size))
     have S13 : (v12.alloc (.cells #[.int .i64 0, .int .i64 0, .int .i64 0, .int .i64 0, .int .i64 0] 32)).cell? ⟨b, 3, none⟩ = some (.pointer (some ⟨bl, 0, none⟩)) ∧ (v12.alloc (.cells #[.int .i64 0, .int .i64 0, .int .i64 0, .int .i64 0, .int .i64 0] 32)).cell? ⟨b, 4, none⟩ = some (.pointer (some ⟨br, 0, none⟩)) := ⟨((unhide B13).cell (p := ⟨b, 3, none⟩) hblt).trans c3, ((unhide B13).cell (p := ⟨b, 4, none⟩) hblt).trans c4⟩
     have qg13 : w1.heap.size ≤ v12.heap.size := (unhide B12).size
     have ne13 : v12.heap.size ≠ p11 := Nat.ne_of_gt (unhide P12).lt
     clear hb
     go_simp
     refine hK.out _ _ ?_ (fun hHeld13 => ?_)
     ·exact S13
     clear hK K
     try simp only [Act.put, qqA, qqB, qqC]
     generalize v12.alloc (Obj.cells #[.int .i64 0, .int .i64 0, .int .i64 0, .int .i64 0, .int .i64 0] 32) = v13 at Q13 B13 S13 hHeld13 P13 ⊢
     generalize v12.heap.size = q13 at Q13 qg13 ne13 ⊢
     refine wpAnyH_ready (rs := [12]) (by kernel_rfl) (by simp) ?_
     refine AllReadyH.cons (o := oNeeI4) rfl (fun K hK => ?_) (AllReadyH.nil)
     have f5 := (unhide P13).S
     have f6 := (unhide P13).F
     have P14 := hide (put5 (unhide P13) (.int .i64 0) (.int .i64 0) (.int .i64 0) (.int .i64 aw) (.int .i64 ah))
     have Q14 := hide ((((((unhide Q13).far ⟨p11, 0, none⟩ (.int .i64 0) (ne13).symm).far ⟨p11, 1, none⟩ (.int .i64 0) (ne13).symm).far ⟨p11, 2, none⟩ (.int .i64 0) (ne13).symm).far ⟨p11, 3, none⟩ (.int .i64 aw) (ne13).symm).far ⟨p11, 4, none⟩ (.int .i64 ah) (ne13).symm)
     have B14 := hide ((((((unhide B13).setCell (p := ⟨p11, 0, none⟩) pg11 (.int .i64 0)).setCell (p := ⟨p11, 1, none⟩) pg11 (.int .i64 0)).setCell (p := ⟨p11, 2, none⟩) pg11 (.int .i64 0)).setCell (p := ⟨p11, 3, none⟩) pg11 (.int .i64 aw)).setCell (p := ⟨p11, 4, none⟩) pg11 (.int .i64 ah))
     have S14 : (((((v13.setCell ⟨p11, 0, none⟩ (.int .i64 0)).setCell ⟨p11, 1, none⟩ (.int .i64 0)).setCell ⟨p11, 2, none⟩ (.int .i64 0)).setCell ⟨p11, 3, none⟩ (.int .i64 aw)).setCell ⟨p11, 4, none⟩ (.int .i64 ah)).cell? ⟨b, 3, none⟩ = some (.pointer (some ⟨bl, 0, none⟩)) ∧ (((((v13.setCell ⟨p11, 0, none⟩ (.int .i64 0)).setCell ⟨p11, 1, none⟩ (.int .i64 0)).setCell ⟨p11, 2, none⟩ (.int .i64 0)).setCell ⟨p11, 3, none⟩ (.int .i64 aw)).setCell ⟨p11, 4, none⟩ (.int .i64 ah)).cell? ⟨b, 4, none⟩ = some (.pointer (some ⟨br, 0, none⟩)) := ⟨((unhide B14).cell (p := ⟨b, 3, none⟩) hblt).trans c3, ((unhide B14).cell (p := ⟨b, 4, none⟩) hblt).trans c4⟩
     go_simp
     clear f5 f6
     refine hK.out _ _ ?_ (fun hHeld14 => ?_)
     ·exact S14
     clear hK K
     try simp only [Act.put, qqA, qqB, qqC]
     generalize (((((v13.setCell ⟨p11, 0, none⟩ (.int .i64 0)).setCell ⟨p11, 1, none⟩ (.int .i64 0)).setCell ⟨p11, 2, none⟩ (.int .i64 0)).setCell ⟨p11, 3, none⟩ (.int .i64 aw)).setCell ⟨p11, 4, none⟩ (.int .i64 ah)) = v14 at P14 Q14 B14 S14 hHeld14 ⊢
     refine wpAnyH_ready (rs := [13]) (by kernel_rfl) (by simp) ?_
     refine AllReadyH.cons (o := oNeeI5) rfl (fun K hK => ?_) (AllReadyH.nil)
     have f5 := (unhide Q14).S
     have f6 := (unhide Q14).F
     have Q15 := hide (put5 (unhide Q14) (.int .i64 0) (.int .i64 0) (.int .i64 0) (.int .i64 cw) (.int .i64 ch))
     have P15 := hide ((((((unhide P14).far ⟨q13, 0, none⟩ (.int .i64 0) ne13).far ⟨q13, 1, none⟩ (.int .i64 0) ne13).far ⟨q13, 2, none⟩ (.int .i64 0) ne13).far ⟨q13, 3, none⟩ (.int .i64 cw) ne13).far ⟨q13, 4, none⟩ (.int .i64 ch) ne13)
     have B15 := hide ((((((unhide B14).setCell (p := ⟨q13, 0, none⟩) qg13 (.int .i64 0)).setCell (p := ⟨q13, 1, none⟩) qg13 (.int .i64 0)).setCell (p := ⟨q13, 2, none⟩) qg13 (.int .i64 0)).setCell (p := ⟨q13, 3, none⟩) qg13 (.int .i64 cw)).setCell (p := ⟨q13, 4, none⟩) qg13 (.int .i64 ch))
     have S15 : (((((v14.setCell ⟨q13, 0, none⟩ (.int .i64 0)).setCell ⟨q13, 1, none⟩ (.int .i64 0)).setCell ⟨q13, 2, none⟩ (.int .i64 0)).setCell ⟨q13, 3, none⟩ (.int .i64 cw)).setCell ⟨q13, 4, none⟩ (.int .i64 ch)).cell? ⟨b, 3, none⟩ = some (.pointer (some ⟨bl, 0, none⟩)) ∧ (((((v14.setCell ⟨q13, 0, none⟩ (.int .i64 0)).setCell ⟨q13, 1, none⟩ (.int .i64 0)).setCell ⟨q13, 2, none⟩ (.int .i64 0)).setCell ⟨q13, 3, none⟩ (.int .i64 cw)).setCell ⟨q13, 4, none⟩ (.int .i64 ch)).cell? ⟨b, 4, none⟩ = some (.pointer (some ⟨br, 0, none⟩)) := ⟨((unhide B15).cell (p := ⟨b, 3, none⟩) hblt).trans c3, ((unhide B15).cell (p := ⟨b, 4, none⟩) hblt).trans c4⟩
     go_simp
     clear f5 f6
     refine hK.out _ _ ?_ (fun hHeld15 => ?_)
     ·exact S15
     clear hK K
     try simp only [Act.put, qqA, qqB, qqC]
     generalize (((((v14.setCell ⟨q13, 0, none⟩ (.int .i64 0)).setCell ⟨q13, 1, none⟩ (.int .i64 0)).setCell ⟨q13, 2, none⟩ (.int .i64 0)).setCell ⟨q13, 3, none⟩ (.int .i64 cw)).setCell ⟨q13, 4, none⟩ (.int .i64 ch)) = v15 at Q15 P15 B15 S15 hHeld15 ⊢
     refine wpAnyH_done (by kernel_rfl) ?_ _
     have cp := (unhide P15).S
     have cq := (unhide Q15).S
     have cb := (unhide HBF).below (unhide B15)
     have cr := (unhide BR).below (unhide B15)
     have cb1 : v15.cell? ⟨b, 1, none⟩ = some (.bool r) := cb.S 1
     have cr1 := cr.S
     have cr2 := cr.F
     have HBZ := hide ((unhide HB0).trans ((unhide B15).mono (unhide HB0).size))
     have f0 := hide (put5 cr (.int .i64 0) (.int .i64 0) (.int .i64 0) (.int .i64 (aw + cw)) (.int .i64 (mx ah ch)))
     have f1 := hide (put5 cr (.int .i64 0) (.int .i64 0) (.int .i64 0) (.int .i64 (mx aw cw)) (.int .i64 (ah + ch)))
     clear cb cr c3 c4
     cases r
     ·have hx : XW = aw + cw := by simpa using unhide HXW
      have hy : XH = mx ah ch := by simpa using unhide HXH
      clear HXW HXH
      subst hx hy
      go_wp2_with fail
      have f2 := (unhide f0).S
      refine bodyPost_ret (v := .agg #[.int .i64 0, .int .i64 0, .int .i64 0, .int .i64 (aw + cw), .int .i64 (mx ah ch)]) (by simp [results, Tryd.results53, go_sem, f2]) rfl ⟨rfl, ?_⟩
      iterate 5 refine Below.setCell ?_ (by exact Nat.le_refl _) _
      exact unhide HBZ
     ·have hx : XW = mx aw cw := by simpa using unhide HXW
      have hy : XH = ah + ch := by simpa using unhide HXH
      clear HXW HXH
      subst hx hy
      go_wp2_with fail
      have f2 := (unhide f1).S
      refine bodyPost_ret (v := .agg #[.int .i64 0, .int .i64 0, .int .i64 0, .int .i64 (mx aw cw), .int .i64 (ah + ch)]) (by simp [results, Tryd.results53, go_sem, f2]) rfl ⟨rfl, ?_⟩
      iterate 5 refine Below.setCell ?_ (by exact Nat.le_refl _) _
      exact unhide HBZ
    ·skip
     have hb : Below v11.heap.size v11 (v11.alloc (.cells #[.int .i64 0, .int .i64 0, .int .i64 0, .int .i64 0, .int .i64 0] 32)) := (Below.refl _ _).alloc (Nat.le_refl _) _
     have P16 := hide ((unhide P11).below hb)
     have Q16 := hide (BF.new v11 #[.int .i64 0, .int .i64 0, .int .i64 0, .int .i64 0, .int .i64 0] 32)
     have B16 := hide ((unhide B11).trans (hb.mono (unhide B11).size))
     have S16 : (v11.alloc (.cells #[.int .i64 0, .int .i64 0, .int .i64 0, .int .i64 0, .int .i64 0] 32)).cell? ⟨b, 3, none⟩ = some (.pointer (some ⟨bl, 0, none⟩)) ∧ (v11.alloc (.cells #[.int .i64 0, .int .i64 0, .int .i64 0, .int .i64 0, .int .i64 0] 32)).cell? ⟨b, 4, none⟩ = some (.pointer (some ⟨br, 0, none⟩)) := ⟨((unhide B16).cell (p := ⟨b, 3, none⟩) hblt).trans c3, ((unhide B16).cell (p := ⟨b, 4, none⟩) hblt).trans c4⟩
     have qg16 : w1.heap.size ≤ v11.heap.size := (unhide B11).size
     have ne16 : v11.heap.size ≠ p11 := Nat.ne_of_gt (unhide P11).lt
     clear hb
     go_simp
     refine hK.out _ _ ?_ (fun hHeld16 => ?_)
     ·exact S16
     clear hK K
     try simp only [Act.put, qqA, qqB, qqC]
     generalize v11.alloc (Obj.cells #[.int .i64 0, .int .i64 0, .int .i64 0, .int .i64 0, .int .i64 0] 32) = v16 at Q16 B16 S16 hHeld16 P16 ⊢
     generalize v11.heap.size = q16 at Q16 qg16 ne16 ⊢
     refine wpAnyH_ready (rs := [9]) (by kernel_rfl) (by simp) ?_
     refine AllReadyH.cons (o := oNeeI3) rfl (fun K hK => ?_) (AllReadyH.nil)
     go_simp
     refine (unhide HJ br Rs _ ((unhide HTR).below (unhide B16)) (unhide HR1)).mono ?_
     rw [← unhide HE3, ← unhide HE4]
     rintro e v17 ⟨rfl, hb⟩
     have P17 := hide ((unhide P16).below hb)
     have Q17 := hide ((unhide Q16).below hb)
     have B17 := hide ((unhide B16).trans (hb.mono (unhide B16).size))
     have S17 : v17.cell? ⟨b, 3, none⟩ = some (.pointer (some ⟨bl, 0, none⟩)) ∧ v17.cell? ⟨b, 4, none⟩ = some (.pointer (some ⟨br, 0, none⟩)) := ⟨((unhide B17).cell (p := ⟨b, 3, none⟩) hblt).trans c3, ((unhide B17).cell (p := ⟨b, 4, none⟩) hblt).trans c4⟩
     clear hb
     go_wp2_with fail
     refine hK.out _ _ ?_ (fun hHeld17 => ?_)
     ·exact S17
     clear hK K
     try simp only [Act.put, qqA, qqB, qqC]
     refine wpAnyH_ready (rs := [12]) (by kernel_rfl) (by simp) ?_
     refine AllReadyH.cons (o := oNeeI4) rfl (fun K hK => ?_) (AllReadyH.nil)
     have f5 := (unhide P17).S
     have f6 := (unhide P17).F
     have P18 := hide (put5 (unhide P17) (.int .i64 0) (.int .i64 0) (.int .i64 0) (.int .i64 aw) (.int .i64 ah))
     have Q18 := hide ((((((unhide Q17).far ⟨p11, 0, none⟩ (.int .i64 0) (ne16).symm).far ⟨p11, 1, none⟩ (.int .i64 0) (ne16).symm).far ⟨p11, 2, none⟩ (.int .i64 0) (ne16).symm).far ⟨p11, 3, none⟩ (.int .i64 aw) (ne16).symm).far ⟨p11, 4, none⟩ (.int .i64 ah) (ne16).symm)
     have B18 := hide ((((((unhide B17).setCell (p := ⟨p11, 0, none⟩) pg11 (.int .i64 0)).setCell (p := ⟨p11, 1, none⟩) pg11 (.int .i64 0)).setCell (p := ⟨p11, 2, none⟩) pg11 (.int .i64 0)).setCell (p := ⟨p11, 3, none⟩) pg11 (.int .i64 aw)).setCell (p := ⟨p11, 4, none⟩) pg11 (.int .i64 ah))
     have S18 : (((((v17.setCell ⟨p11, 0, none⟩ (.int .i64 0)).setCell ⟨p11, 1, none⟩ (.int .i64 0)).setCell ⟨p11, 2, none⟩ (.int .i64 0)).setCell ⟨p11, 3, none⟩ (.int .i64 aw)).setCell ⟨p11, 4, none⟩ (.int .i64 ah)).cell? ⟨b, 3, none⟩ = some (.pointer (some ⟨bl, 0, none⟩)) ∧ (((((v17.setCell ⟨p11, 0, none⟩ (.int .i64 0)).setCell ⟨p11, 1, none⟩ (.int .i64 0)).setCell ⟨p11, 2, none⟩ (.int .i64 0)).setCell ⟨p11, 3, none⟩ (.int .i64 aw)).setCell ⟨p11, 4, none⟩ (.int .i64 ah)).cell? ⟨b, 4, none⟩ = some (.pointer (some ⟨br, 0, none⟩)) := ⟨((unhide B18).cell (p := ⟨b, 3, none⟩) hblt).trans c3, ((unhide B18).cell (p := ⟨b, 4, none⟩) hblt).trans c4⟩
     go_simp
     clear f5 f6
     refine hK.out _ _ ?_ (fun hHeld18 => ?_)
     ·exact S18
     clear hK K
     try simp only [Act.put, qqA, qqB, qqC]
     generalize (((((v17.setCell ⟨p11, 0, none⟩ (.int .i64 0)).setCell ⟨p11, 1, none⟩ (.int .i64 0)).setCell ⟨p11, 2, none⟩ (.int .i64 0)).setCell ⟨p11, 3, none⟩ (.int .i64 aw)).setCell ⟨p11, 4, none⟩ (.int .i64 ah)) = v18 at P18 Q18 B18 S18 hHeld18 ⊢
     refine wpAnyH_ready (rs := [13]) (by kernel_rfl) (by simp) ?_
     refine AllReadyH.cons (o := oNeeI5) rfl (fun K hK => ?_) (AllReadyH.nil)
     have f5 := (unhide Q18).S
     have f6 := (unhide Q18).F
     have Q19 := hide (put5 (unhide Q18) (.int .i64 0) (.int .i64 0) (.int .i64 0) (.int .i64 cw) (.int .i64 ch))
     have P19 := hide ((((((unhide P18).far ⟨q16, 0, none⟩ (.int .i64 0) ne16).far ⟨q16, 1, none⟩ (.int .i64 0) ne16).far ⟨q16, 2, none⟩ (.int .i64 0) ne16).far ⟨q16, 3, none⟩ (.int .i64 cw) ne16).far ⟨q16, 4, none⟩ (.int .i64 ch) ne16)
     have B19 := hide ((((((unhide B18).setCell (p := ⟨q16, 0, none⟩) qg16 (.int .i64 0)).setCell (p := ⟨q16, 1, none⟩) qg16 (.int .i64 0)).setCell (p := ⟨q16, 2, none⟩) qg16 (.int .i64 0)).setCell (p := ⟨q16, 3, none⟩) qg16 (.int .i64 cw)).setCell (p := ⟨q16, 4, none⟩) qg16 (.int .i64 ch))
     have S19 : (((((v18.setCell ⟨q16, 0, none⟩ (.int .i64 0)).setCell ⟨q16, 1, none⟩ (.int .i64 0)).setCell ⟨q16, 2, none⟩ (.int .i64 0)).setCell ⟨q16, 3, none⟩ (.int .i64 cw)).setCell ⟨q16, 4, none⟩ (.int .i64 ch)).cell? ⟨b, 3, none⟩ = some (.pointer (some ⟨bl, 0, none⟩)) ∧ (((((v18.setCell ⟨q16, 0, none⟩ (.int .i64 0)).setCell ⟨q16, 1, none⟩ (.int .i64 0)).setCell ⟨q16, 2, none⟩ (.int .i64 0)).setCell ⟨q16, 3, none⟩ (.int .i64 cw)).setCell ⟨q16, 4, none⟩ (.int .i64 ch)).cell? ⟨b, 4, none⟩ = some (.pointer (some ⟨br, 0, none⟩)) := ⟨((unhide B19).cell (p := ⟨b, 3, none⟩) hblt).trans c3, ((unhide B19).cell (p := ⟨b, 4, none⟩) hblt).trans c4⟩
     go_simp
     clear f5 f6
     refine hK.out _ _ ?_ (fun hHeld19 => ?_)
     ·exact S19
     clear hK K
     try simp only [Act.put, qqA, qqB, qqC]
     generalize (((((v18.setCell ⟨q16, 0, none⟩ (.int .i64 0)).setCell ⟨q16, 1, none⟩ (.int .i64 0)).setCell ⟨q16, 2, none⟩ (.int .i64 0)).setCell ⟨q16, 3, none⟩ (.int .i64 cw)).setCell ⟨q16, 4, none⟩ (.int .i64 ch)) = v19 at Q19 P19 B19 S19 hHeld19 ⊢
     refine wpAnyH_done (by kernel_rfl) ?_ _
     have cp := (unhide P19).S
     have cq := (unhide Q19).S
     have cb := (unhide HBF).below (unhide B19)
     have cr := (unhide BR).below (unhide B19)
     have cb1 : v19.cell? ⟨b, 1, none⟩ = some (.bool r) := cb.S 1
     have cr1 := cr.S
     have cr2 := cr.F
     have HBZ := hide ((unhide HB0).trans ((unhide B19).mono (unhide HB0).size))
     have f0 := hide (put5 cr (.int .i64 0) (.int .i64 0) (.int .i64 0) (.int .i64 (aw + cw)) (.int .i64 (mx ah ch)))
     have f1 := hide (put5 cr (.int .i64 0) (.int .i64 0) (.int .i64 0) (.int .i64 (mx aw cw)) (.int .i64 (ah + ch)))
     clear cb cr c3 c4
     cases r
     ·have hx : XW = aw + cw := by simpa using unhide HXW
      have hy : XH = mx ah ch := by simpa using unhide HXH
      clear HXW HXH
      subst hx hy
      go_wp2_with fail
      have f2 := (unhide f0).S
      refine bodyPost_ret (v := .agg #[.int .i64 0, .int .i64 0, .int .i64 0, .int .i64 (aw + cw), .int .i64 (mx ah ch)]) (by simp [results, Tryd.results53, go_sem, f2]) rfl ⟨rfl, ?_⟩
      iterate 5 refine Below.setCell ?_ (by exact Nat.le_refl _) _
      exact unhide HBZ
     ·have hx : XW = mx aw cw := by simpa using unhide HXW
      have hy : XH = ah + ch := by simpa using unhide HXH
      clear HXW HXH
      subst hx hy
      go_wp2_with fail
      have f2 := (unhide f1).S
      refine bodyPost_ret (v := .agg #[.int .i64 0, .int .i64 0, .int .i64 0, .int .i64 (mx aw cw), .int .i64 (ah + ch)]) (by simp [results, Tryd.results53, go_sem, f2]) rfl ⟨rfl, ?_⟩
      iterate 5 refine Below.setCell ?_ (by exact Nat.le_refl _) _
      exact unhide HBZ
   ·skip
    have hb : Below v1.heap.size v1 (v1.alloc (.cells #[.int .i64 0, .int .i64 0, .int .i64 0, .int .i64 0, .int .i64 0] 32)) := (Below.refl _ _).alloc (Nat.le_refl _) _
    have Q20 := hide (BF.new v1 #[.int .i64 0, .int .i64 0, .int .i64 0, .int .i64 0, .int .i64 0] 32)
    have B20 := hide ((unhide B1).trans (hb.mono (unhide B1).size))
    have S20 : (v1.alloc (.cells #[.int .i64 0, .int .i64 0, .int .i64 0, .int .i64 0, .int .i64 0] 32)).cell? ⟨b, 3, none⟩ = some (.pointer (some ⟨bl, 0, none⟩)) ∧ (v1.alloc (.cells #[.int .i64 0, .int .i64 0, .int .i64 0, .int .i64 0, .int .i64 0] 32)).cell? ⟨b, 4, none⟩ = some (.pointer (some ⟨br, 0, none⟩)) := ⟨((unhide B20).cell (p := ⟨b, 3, none⟩) hblt).trans c3, ((unhide B20).cell (p := ⟨b, 4, none⟩) hblt).trans c4⟩
    have qg20 : w1.heap.size ≤ v1.heap.size := (unhide B1).size
    clear hb
    go_simp
    refine hK.out _ _ ?_ (fun hHeld20 => ?_)
    ·exact S20
    clear hK K
    try simp only [Act.put, qqA, qqB, qqC]
    generalize v1.alloc (Obj.cells #[.int .i64 0, .int .i64 0, .int .i64 0, .int .i64 0, .int .i64 0] 32) = v20 at Q20 B20 S20 hHeld20 ⊢
    generalize v1.heap.size = q20 at Q20 qg20 ⊢
    refine wpAnyH_ready (rs := [9, 10]) (by kernel_rfl) (by simp) ?_
    refine AllReadyH.cons (o := oNeeI3) rfl (fun K hK => ?_) (AllReadyH.cons (o := oNeeI1) rfl (fun K hK => ?_) (AllReadyH.nil))
    ·skip
     go_simp
     refine (unhide HJ br Rs _ ((unhide HTR).below (unhide B20)) (unhide HR1)).mono ?_
     rw [← unhide HE3, ← unhide HE4]
     rintro e v21 ⟨rfl, hb⟩
     have Q21 := hide ((unhide Q20).below hb)
     have B21 := hide ((unhide B20).trans (hb.mono (unhide B20).size))
     have S21 : v21.cell? ⟨b, 3, none⟩ = some (.pointer (some ⟨bl, 0, none⟩)) ∧ v21.cell? ⟨b, 4, none⟩ = some (.pointer (some ⟨br, 0, none⟩)) := ⟨((unhide B21).cell (p := ⟨b, 3, none⟩) hblt).trans c3, ((unhide B21).cell (p := ⟨b, 4, none⟩) hblt).trans c4⟩
     clear hb
     go_wp2_with fail
     refine hK.out _ _ ?_ (fun hHeld21 => ?_)
     ·exact S21
     clear hK K
     try simp only [Act.put, qqA, qqB, qqC]
     refine wpAnyH_ready (rs := [10]) (by kernel_rfl) (by simp) ?_
     refine AllReadyH.cons (o := oNeeI1) rfl (fun K hK => ?_) (AllReadyH.nil)
     have hb : Below v21.heap.size v21 (v21.alloc (.cells #[.int .i64 0, .int .i64 0, .int .i64 0, .int .i64 0, .int .i64 0] 32)) := (Below.refl _ _).alloc (Nat.le_refl _) _
     have Q22 := hide ((unhide Q21).below hb)
     have P22 := hide (BF.new v21 #[.int .i64 0, .int .i64 0, .int .i64 0, .int .i64 0, .int .i64 0] 32)
     have B22 := hide ((unhide B21).trans (hb.mono (unhide B21).size))
     have S22 : (v21.alloc (.cells #[.int .i64 0, .int .i64 0, .int .i64 0, .int .i64 0, .int .i64 0] 32)).cell? ⟨b, 3, none⟩ = some (.pointer (some ⟨bl, 0, none⟩)) ∧ (v21.alloc (.cells #[.int .i64 0, .int .i64 0, .int .i64 0, .int .i64 0, .int .i64 0] 32)).cell? ⟨b, 4, none⟩ = some (.pointer (some ⟨br, 0, none⟩)) := ⟨((unhide B22).cell (p := ⟨b, 3, none⟩) hblt).trans c3, ((unhide B22).cell (p := ⟨b, 4, none⟩) hblt).trans c4⟩
     have pg22 : w1.heap.size ≤ v21.heap.size := (unhide B21).size
     have ne22 : v21.heap.size ≠ q20 := Nat.ne_of_gt (unhide Q21).lt
     clear hb
     go_simp
     refine hK.out _ _ ?_ (fun hHeld22 => ?_)
     ·exact S22
     clear hK K
     try simp only [Act.put, qqA, qqB, qqC]
     generalize v21.alloc (Obj.cells #[.int .i64 0, .int .i64 0, .int .i64 0, .int .i64 0, .int .i64 0] 32) = v22 at P22 B22 S22 hHeld22 Q22 ⊢
     generalize v21.heap.size = p22 at P22 pg22 ne22 ⊢
     refine wpAnyH_ready (rs := [12]) (by kernel_rfl) (by simp) ?_
     refine AllReadyH.cons (o := oNeeI4) rfl (fun K hK => ?_) (AllReadyH.nil)
     have f5 := (unhide P22).S
     have f6 := (unhide P22).F
     have P23 := hide (put5 (unhide P22) (.int .i64 0) (.int .i64 0) (.int .i64 0) (.int .i64 aw) (.int .i64 ah))
     have Q23 := hide ((((((unhide Q22).far ⟨p22, 0, none⟩ (.int .i64 0) ne22).far ⟨p22, 1, none⟩ (.int .i64 0) ne22).far ⟨p22, 2, none⟩ (.int .i64 0) ne22).far ⟨p22, 3, none⟩ (.int .i64 aw) ne22).far ⟨p22, 4, none⟩ (.int .i64 ah) ne22)
     have B23 := hide ((((((unhide B22).setCell (p := ⟨p22, 0, none⟩) pg22 (.int .i64 0)).setCell (p := ⟨p22, 1, none⟩) pg22 (.int .i64 0)).setCell (p := ⟨p22, 2, none⟩) pg22 (.int .i64 0)).setCell (p := ⟨p22, 3, none⟩) pg22 (.int .i64 aw)).setCell (p := ⟨p22, 4, none⟩) pg22 (.int .i64 ah))
     have S23 : (((((v22.setCell ⟨p22, 0, none⟩ (.int .i64 0)).setCell ⟨p22, 1, none⟩ (.int .i64 0)).setCell ⟨p22, 2, none⟩ (.int .i64 0)).setCell ⟨p22, 3, none⟩ (.int .i64 aw)).setCell ⟨p22, 4, none⟩ (.int .i64 ah)).cell? ⟨b, 3, none⟩ = some (.pointer (some ⟨bl, 0, none⟩)) ∧ (((((v22.setCell ⟨p22, 0, none⟩ (.int .i64 0)).setCell ⟨p22, 1, none⟩ (.int .i64 0)).setCell ⟨p22, 2, none⟩ (.int .i64 0)).setCell ⟨p22, 3, none⟩ (.int .i64 aw)).setCell ⟨p22, 4, none⟩ (.int .i64 ah)).cell? ⟨b, 4, none⟩ = some (.pointer (some ⟨br, 0, none⟩)) := ⟨((unhide B23).cell (p := ⟨b, 3, none⟩) hblt).trans c3, ((unhide B23).cell (p := ⟨b, 4, none⟩) hblt).trans c4⟩
     go_simp
     clear f5 f6
     refine hK.out _ _ ?_ (fun hHeld23 => ?_)
     ·exact S23
     clear hK K
     try simp only [Act.put, qqA, qqB, qqC]
     generalize (((((v22.setCell ⟨p22, 0, none⟩ (.int .i64 0)).setCell ⟨p22, 1, none⟩ (.int .i64 0)).setCell ⟨p22, 2, none⟩ (.int .i64 0)).setCell ⟨p22, 3, none⟩ (.int .i64 aw)).setCell ⟨p22, 4, none⟩ (.int .i64 ah)) = v23 at P23 Q23 B23 S23 hHeld23 ⊢
     refine wpAnyH_ready (rs := [13]) (by kernel_rfl) (by simp) ?_
     refine AllReadyH.cons (o := oNeeI5) rfl (fun K hK => ?_) (AllReadyH.nil)
     have f5 := (unhide Q23).S
     have f6 := (unhide Q23).F
     have Q24 := hide (put5 (unhide Q23) (.int .i64 0) (.int .i64 0) (.int .i64 0) (.int .i64 cw) (.int .i64 ch))
     have P24 := hide ((((((unhide P23).far ⟨q20, 0, none⟩ (.int .i64 0) (ne22).symm).far ⟨q20, 1, none⟩ (.int .i64 0) (ne22).symm).far ⟨q20, 2, none⟩ (.int .i64 0) (ne22).symm).far ⟨q20, 3, none⟩ (.int .i64 cw) (ne22).symm).far ⟨q20, 4, none⟩ (.int .i64 ch) (ne22).symm)
     have B24 := hide ((((((unhide B23).setCell (p := ⟨q20, 0, none⟩) qg20 (.int .i64 0)).setCell (p := ⟨q20, 1, none⟩) qg20 (.int .i64 0)).setCell (p := ⟨q20, 2, none⟩) qg20 (.int .i64 0)).setCell (p := ⟨q20, 3, none⟩) qg20 (.int .i64 cw)).setCell (p := ⟨q20, 4, none⟩) qg20 (.int .i64 ch))
     have S24 : (((((v23.setCell ⟨q20, 0, none⟩ (.int .i64 0)).setCell ⟨q20, 1, none⟩ (.int .i64 0)).setCell ⟨q20, 2, none⟩ (.int .i64 0)).setCell ⟨q20, 3, none⟩ (.int .i64 cw)).setCell ⟨q20, 4, none⟩ (.int .i64 ch)).cell? ⟨b, 3, none⟩ = some (.pointer (some ⟨bl, 0, none⟩)) ∧ (((((v23.setCell ⟨q20, 0, none⟩ (.int .i64 0)).setCell ⟨q20, 1, none⟩ (.int .i64 0)).setCell ⟨q20, 2, none⟩ (.int .i64 0)).setCell ⟨q20, 3, none⟩ (.int .i64 cw)).setCell ⟨q20, 4, none⟩ (.int .i64 ch)).cell? ⟨b, 4, none⟩ = some (.pointer (some ⟨br, 0, none⟩)) := ⟨((unhide B24).cell (p := ⟨b, 3, none⟩) hblt).trans c3, ((unhide B24).cell (p := ⟨b, 4, none⟩) hblt).trans c4⟩
     go_simp
     clear f5 f6
     refine hK.out _ _ ?_ (fun hHeld24 => ?_)
     ·exact S24
     clear hK K
     try simp only [Act.put, qqA, qqB, qqC]
     generalize (((((v23.setCell ⟨q20, 0, none⟩ (.int .i64 0)).setCell ⟨q20, 1, none⟩ (.int .i64 0)).setCell ⟨q20, 2, none⟩ (.int .i64 0)).setCell ⟨q20, 3, none⟩ (.int .i64 cw)).setCell ⟨q20, 4, none⟩ (.int .i64 ch)) = v24 at Q24 P24 B24 S24 hHeld24 ⊢
     refine wpAnyH_done (by kernel_rfl) ?_ _
     have cp := (unhide P24).S
     have cq := (unhide Q24).S
     have cb := (unhide HBF).below (unhide B24)
     have cr := (unhide BR).below (unhide B24)
     have cb1 : v24.cell? ⟨b, 1, none⟩ = some (.bool r) := cb.S 1
     have cr1 := cr.S
     have cr2 := cr.F
     have HBZ := hide ((unhide HB0).trans ((unhide B24).mono (unhide HB0).size))
     have f0 := hide (put5 cr (.int .i64 0) (.int .i64 0) (.int .i64 0) (.int .i64 (aw + cw)) (.int .i64 (mx ah ch)))
     have f1 := hide (put5 cr (.int .i64 0) (.int .i64 0) (.int .i64 0) (.int .i64 (mx aw cw)) (.int .i64 (ah + ch)))
     clear cb cr c3 c4
     cases r
     ·have hx : XW = aw + cw := by simpa using unhide HXW
      have hy : XH = mx ah ch := by simpa using unhide HXH
      clear HXW HXH
      subst hx hy
      go_wp2_with fail
      have f2 := (unhide f0).S
      refine bodyPost_ret (v := .agg #[.int .i64 0, .int .i64 0, .int .i64 0, .int .i64 (aw + cw), .int .i64 (mx ah ch)]) (by simp [results, Tryd.results53, go_sem, f2]) rfl ⟨rfl, ?_⟩
      iterate 5 refine Below.setCell ?_ (by exact Nat.le_refl _) _
      exact unhide HBZ
     ·have hx : XW = mx aw cw := by simpa using unhide HXW
      have hy : XH = ah + ch := by simpa using unhide HXH
      clear HXW HXH
      subst hx hy
      go_wp2_with fail
      have f2 := (unhide f1).S
      refine bodyPost_ret (v := .agg #[.int .i64 0, .int .i64 0, .int .i64 0, .int .i64 (mx aw cw), .int .i64 (ah + ch)]) (by simp [results, Tryd.results53, go_sem, f2]) rfl ⟨rfl, ?_⟩
      iterate 5 refine Below.setCell ?_ (by exact Nat.le_refl _) _
      exact unhide HBZ
    ·skip
     have hb : Below v20.heap.size v20 (v20.alloc (.cells #[.int .i64 0, .int .i64 0, .int .i64 0, .int .i64 0, .int .i64 0] 32)) := (Below.refl _ _).alloc (Nat.le_refl _) _
     have Q25 := hide ((unhide Q20).below hb)
     have P25 := hide (BF.new v20 #[.int .i64 0, .int .i64 0, .int .i64 0, .int .i64 0, .int .i64 0] 32)
     have B25 := hide ((unhide B20).trans (hb.mono (unhide B20).size))
     have S25 : (v20.alloc (.cells #[.int .i64 0, .int .i64 0, .int .i64 0, .int .i64 0, .int .i64 0] 32)).cell? ⟨b, 3, none⟩ = some (.pointer (some ⟨bl, 0, none⟩)) ∧ (v20.alloc (.cells #[.int .i64 0, .int .i64 0, .int .i64 0, .int .i64 0, .int .i64 0] 32)).cell? ⟨b, 4, none⟩ = some (.pointer (some ⟨br, 0, none⟩)) := ⟨((unhide B25).cell (p := ⟨b, 3, none⟩) hblt).trans c3, ((unhide B25).cell (p := ⟨b, 4, none⟩) hblt).trans c4⟩
     have pg25 : w1.heap.size ≤ v20.heap.size := (unhide B20).size
     have ne25 : v20.heap.size ≠ q20 := Nat.ne_of_gt (unhide Q20).lt
     clear hb
     go_simp
     refine hK.out _ _ ?_ (fun hHeld25 => ?_)
     ·exact S25
     clear hK K
     try simp only [Act.put, qqA, qqB, qqC]
     generalize v20.alloc (Obj.cells #[.int .i64 0, .int .i64 0, .int .i64 0, .int .i64 0, .int .i64 0] 32) = v25 at P25 B25 S25 hHeld25 Q25 ⊢
     generalize v20.heap.size = p25 at P25 pg25 ne25 ⊢
     refine wpAnyH_ready (rs := [9]) (by kernel_rfl) (by simp) ?_
     refine AllReadyH.cons (o := oNeeI3) rfl (fun K hK => ?_) (AllReadyH.nil)
     go_simp
     refine (unhide HJ br Rs _ ((unhide HTR).below (unhide B25)) (unhide HR1)).mono ?_
     rw [← unhide HE3, ← unhide HE4]
     rintro e v26 ⟨rfl, hb⟩
     have P26 := hide ((unhide P25).below hb)
     have Q26 := hide ((unhide Q25).below hb)
     have B26 := hide ((unhide B25).trans (hb.mono (unhide B25).size))
     have S26 : v26.cell? ⟨b, 3, none⟩ = some (.pointer (some ⟨bl, 0, none⟩)) ∧ v26.cell? ⟨b, 4, none⟩ = some (.pointer (some ⟨br, 0, none⟩)) := ⟨((unhide B26).cell (p := ⟨b, 3, none⟩) hblt).trans c3, ((unhide B26).cell (p := ⟨b, 4, none⟩) hblt).trans c4⟩
     clear hb
     go_wp2_with fail
     refine hK.out _ _ ?_ (fun hHeld26 => ?_)
     ·exact S26
     clear hK K
     try simp only [Act.put, qqA, qqB, qqC]
     refine wpAnyH_ready (rs := [12]) (by kernel_rfl) (by simp) ?_
     refine AllReadyH.cons (o := oNeeI4) rfl (fun K hK => ?_) (AllReadyH.nil)
     have f5 := (unhide P26).S
     have f6 := (unhide P26).F
     have P27 := hide (put5 (unhide P26) (.int .i64 0) (.int .i64 0) (.int .i64 0) (.int .i64 aw) (.int .i64 ah))
     have Q27 := hide ((((((unhide Q26).far ⟨p25, 0, none⟩ (.int .i64 0) ne25).far ⟨p25, 1, none⟩ (.int .i64 0) ne25).far ⟨p25, 2, none⟩ (.int .i64 0) ne25).far ⟨p25, 3, none⟩ (.int .i64 aw) ne25).far ⟨p25, 4, none⟩ (.int .i64 ah) ne25)
     have B27 := hide ((((((unhide B26).setCell (p := ⟨p25, 0, none⟩) pg25 (.int .i64 0)).setCell (p := ⟨p25, 1, none⟩) pg25 (.int .i64 0)).setCell (p := ⟨p25, 2, none⟩) pg25 (.int .i64 0)).setCell (p := ⟨p25, 3, none⟩) pg25 (.int .i64 aw)).setCell (p := ⟨p25, 4, none⟩) pg25 (.int .i64 ah))
     have S27 : (((((v26.setCell ⟨p25, 0, none⟩ (.int .i64 0)).setCell ⟨p25, 1, none⟩ (.int .i64 0)).setCell ⟨p25, 2, none⟩ (.int .i64 0)).setCell ⟨p25, 3, none⟩ (.int .i64 aw)).setCell ⟨p25, 4, none⟩ (.int .i64 ah)).cell? ⟨b, 3, none⟩ = some (.pointer (some ⟨bl, 0, none⟩)) ∧ (((((v26.setCell ⟨p25, 0, none⟩ (.int .i64 0)).setCell ⟨p25, 1, none⟩ (.int .i64 0)).setCell ⟨p25, 2, none⟩ (.int .i64 0)).setCell ⟨p25, 3, none⟩ (.int .i64 aw)).setCell ⟨p25, 4, none⟩ (.int .i64 ah)).cell? ⟨b, 4, none⟩ = some (.pointer (some ⟨br, 0, none⟩)) := ⟨((unhide B27).cell (p := ⟨b, 3, none⟩) hblt).trans c3, ((unhide B27).cell (p := ⟨b, 4, none⟩) hblt).trans c4⟩
     go_simp
     clear f5 f6
     refine hK.out _ _ ?_ (fun hHeld27 => ?_)
     ·exact S27
     clear hK K
     try simp only [Act.put, qqA, qqB, qqC]
     generalize (((((v26.setCell ⟨p25, 0, none⟩ (.int .i64 0)).setCell ⟨p25, 1, none⟩ (.int .i64 0)).setCell ⟨p25, 2, none⟩ (.int .i64 0)).setCell ⟨p25, 3, none⟩ (.int .i64 aw)).setCell ⟨p25, 4, none⟩ (.int .i64 ah)) = v27 at P27 Q27 B27 S27 hHeld27 ⊢
     refine wpAnyH_ready (rs := [13]) (by kernel_rfl) (by simp) ?_
     refine AllReadyH.cons (o := oNeeI5) rfl (fun K hK => ?_) (AllReadyH.nil)
     have f5 := (unhide Q27).S
     have f6 := (unhide Q27).F
     have Q28 := hide (put5 (unhide Q27) (.int .i64 0) (.int .i64 0) (.int .i64 0) (.int .i64 cw) (.int .i64 ch))
     have P28 := hide ((((((unhide P27).far ⟨q20, 0, none⟩ (.int .i64 0) (ne25).symm).far ⟨q20, 1, none⟩ (.int .i64 0) (ne25).symm).far ⟨q20, 2, none⟩ (.int .i64 0) (ne25).symm).far ⟨q20, 3, none⟩ (.int .i64 cw) (ne25).symm).far ⟨q20, 4, none⟩ (.int .i64 ch) (ne25).symm)
     have B28 := hide ((((((unhide B27).setCell (p := ⟨q20, 0, none⟩) qg20 (.int .i64 0)).setCell (p := ⟨q20, 1, none⟩) qg20 (.int .i64 0)).setCell (p := ⟨q20, 2, none⟩) qg20 (.int .i64 0)).setCell (p := ⟨q20, 3, none⟩) qg20 (.int .i64 cw)).setCell (p := ⟨q20, 4, none⟩) qg20 (.int .i64 ch))
     have S28 : (((((v27.setCell ⟨q20, 0, none⟩ (.int .i64 0)).setCell ⟨q20, 1, none⟩ (.int .i64 0)).setCell ⟨q20, 2, none⟩ (.int .i64 0)).setCell ⟨q20, 3, none⟩ (.int .i64 cw)).setCell ⟨q20, 4, none⟩ (.int .i64 ch)).cell? ⟨b, 3, none⟩ = some (.pointer (some ⟨bl, 0, none⟩)) ∧ (((((v27.setCell ⟨q20, 0, none⟩ (.int .i64 0)).setCell ⟨q20, 1, none⟩ (.int .i64 0)).setCell ⟨q20, 2, none⟩ (.int .i64 0)).setCell ⟨q20, 3, none⟩ (.int .i64 cw)).setCell ⟨q20, 4, none⟩ (.int .i64 ch)).cell? ⟨b, 4, none⟩ = some (.pointer (some ⟨br, 0, none⟩)) := ⟨((unhide B28).cell (p := ⟨b, 3, none⟩) hblt).trans c3, ((unhide B28).cell (p := ⟨b, 4, none⟩) hblt).trans c4⟩
     go_simp
     clear f5 f6
     refine hK.out _ _ ?_ (fun hHeld28 => ?_)
     ·exact S28
     clear hK K
     try simp only [Act.put, qqA, qqB, qqC]
     generalize (((((v27.setCell ⟨q20, 0, none⟩ (.int .i64 0)).setCell ⟨q20, 1, none⟩ (.int .i64 0)).setCell ⟨q20, 2, none⟩ (.int .i64 0)).setCell ⟨q20, 3, none⟩ (.int .i64 cw)).setCell ⟨q20, 4, none⟩ (.int .i64 ch)) = v28 at Q28 P28 B28 S28 hHeld28 ⊢
     refine wpAnyH_done (by kernel_rfl) ?_ _
     have cp := (unhide P28).S
     have cq := (unhide Q28).S
     have cb := (unhide HBF).below (unhide B28)
     have cr := (unhide BR).below (unhide B28)
     have cb1 : v28.cell? ⟨b, 1, none⟩ = some (.bool r) := cb.S 1
     have cr1 := cr.S
     have cr2 := cr.F
     have HBZ := hide ((unhide HB0).trans ((unhide B28).mono (unhide HB0).size))
     have f0 := hide (put5 cr (.int .i64 0) (.int .i64 0) (.int .i64 0) (.int .i64 (aw + cw)) (.int .i64 (mx ah ch)))
     have f1 := hide (put5 cr (.int .i64 0) (.int .i64 0) (.int .i64 0) (.int .i64 (mx aw cw)) (.int .i64 (ah + ch)))
     clear cb cr c3 c4
     cases r
     ·have hx : XW = aw + cw := by simpa using unhide HXW
      have hy : XH = mx ah ch := by simpa using unhide HXH
      clear HXW HXH
      subst hx hy
      go_wp2_with fail
      have f2 := (unhide f0).S
      refine bodyPost_ret (v := .agg #[.int .i64 0, .int .i64 0, .int .i64 0, .int .i64 (aw + cw), .int .i64 (mx ah ch)]) (by simp [results, Tryd.results53, go_sem, f2]) rfl ⟨rfl, ?_⟩
      iterate 5 refine Below.setCell ?_ (by exact Nat.le_refl _) _
      exact unhide HBZ
     ·have hx : XW = mx aw cw := by simpa using unhide HXW
      have hy : XH = ah + ch := by simpa using unhide HXH
      clear HXW HXH
      subst hx hy
      go_wp2_with fail
      have f2 := (unhide f1).S
      refine bodyPost_ret (v := .agg #[.int .i64 0, .int .i64 0, .int .i64 0, .int .i64 (mx aw cw), .int .i64 (ah + ch)]) (by simp [results, Tryd.results53, go_sem, f2]) rfl ⟨rfl, ?_⟩
      iterate 5 refine Below.setCell ?_ (by exact Nat.le_refl _) _
      exact unhide HBZ
  ·skip
   have hb : Below v0.heap.size v0 (v0.alloc (.cells #[.int .i64 0, .int .i64 0, .int .i64 0, .int .i64 0, .int .i64 0] 32)) := (Below.refl _ _).alloc (Nat.le_refl _) _
   have P29 := hide (BF.new v0 #[.int .i64 0, .int .i64 0, .int .i64 0, .int .i64 0, .int .i64 0] 32)
   have B29 := hide ((unhide B0).trans (hb.mono (unhide B0).size))
   have S29 : (v0.alloc (.cells #[.int .i64 0, .int .i64 0, .int .i64 0, .int .i64 0, .int .i64 0] 32)).cell? ⟨b, 3, none⟩ = some (.pointer (some ⟨bl, 0, none⟩)) ∧ (v0.alloc (.cells #[.int .i64 0, .int .i64 0, .int .i64 0, .int .i64 0, .int .i64 0] 32)).cell? ⟨b, 4, none⟩ = some (.pointer (some ⟨br, 0, none⟩)) := ⟨((unhide B29).cell (p := ⟨b, 3, none⟩) hblt).trans c3, ((unhide B29).cell (p := ⟨b, 4, none⟩) hblt).trans c4⟩
   have pg29 : w1.heap.size ≤ v0.heap.size := (unhide B0).size
   clear hb
   go_simp
   refine hK.out _ _ ?_ (fun hHeld29 => ?_)
   ·exact S29
   clear hK K
   try simp only [Act.put, qqA, qqB, qqC]
   generalize v0.alloc (Obj.cells #[.int .i64 0, .int .i64 0, .int .i64 0, .int .i64 0, .int .i64 0] 32) = v29 at P29 B29 S29 hHeld29 ⊢
   generalize v0.heap.size = p29 at P29 pg29 ⊢
   refine wpAnyH_ready (rs := [4, 11]) (by kernel_rfl) (by simp) ?_
   refine AllReadyH.cons (o := oNeeI0) rfl (fun K hK => ?_) (AllReadyH.cons (o := oNeeI2) rfl (fun K hK => ?_) (AllReadyH.nil))
   ·skip
    go_simp
    refine (unhide HI bl Ls _ ((unhide HTL).below (unhide B29)) (unhide HL1)).mono ?_
    rw [← unhide HE1, ← unhide HE2]
    rintro e v30 ⟨rfl, hb⟩
    have P30 := hide ((unhide P29).below hb)
    have B30 := hide ((unhide B29).trans (hb.mono (unhide B29).size))
    have S30 : v30.cell? ⟨b, 3, none⟩ = some (.pointer (some ⟨bl, 0, none⟩)) ∧ v30.cell? ⟨b, 4, none⟩ = some (.pointer (some ⟨br, 0, none⟩)) := ⟨((unhide B30).cell (p := ⟨b, 3, none⟩) hblt).trans c3, ((unhide B30).cell (p := ⟨b, 4, none⟩) hblt).trans c4⟩
    clear hb
    go_wp2_with fail
    refine hK.out _ _ ?_ (fun hHeld30 => ?_)
    ·exact S30
    clear hK K
    try simp only [Act.put, qqA, qqB, qqC]
    refine wpAnyH_ready (rs := [9, 11]) (by kernel_rfl) (by simp) ?_
    refine AllReadyH.cons (o := oNeeI3) rfl (fun K hK => ?_) (AllReadyH.cons (o := oNeeI2) rfl (fun K hK => ?_) (AllReadyH.nil))
    ·skip
     go_simp
     refine (unhide HJ br Rs _ ((unhide HTR).below (unhide B30)) (unhide HR1)).mono ?_
     rw [← unhide HE3, ← unhide HE4]
     rintro e v31 ⟨rfl, hb⟩
     have P31 := hide ((unhide P30).below hb)
     have B31 := hide ((unhide B30).trans (hb.mono (unhide B30).size))
     have S31 : v31.cell? ⟨b, 3, none⟩ = some (.pointer (some ⟨bl, 0, none⟩)) ∧ v31.cell? ⟨b, 4, none⟩ = some (.pointer (some ⟨br, 0, none⟩)) := ⟨((unhide B31).cell (p := ⟨b, 3, none⟩) hblt).trans c3, ((unhide B31).cell (p := ⟨b, 4, none⟩) hblt).trans c4⟩
     clear hb
     go_wp2_with fail
     refine hK.out _ _ ?_ (fun hHeld31 => ?_)
     ·exact S31
     clear hK K
     try simp only [Act.put, qqA, qqB, qqC]
     refine wpAnyH_ready (rs := [11]) (by kernel_rfl) (by simp) ?_
     refine AllReadyH.cons (o := oNeeI2) rfl (fun K hK => ?_) (AllReadyH.nil)
     have hb : Below v31.heap.size v31 (v31.alloc (.cells #[.int .i64 0, .int .i64 0, .int .i64 0, .int .i64 0, .int .i64 0] 32)) := (Below.refl _ _).alloc (Nat.le_refl _) _
     have P32 := hide ((unhide P31).below hb)
     have Q32 := hide (BF.new v31 #[.int .i64 0, .int .i64 0, .int .i64 0, .int .i64 0, .int .i64 0] 32)
     have B32 := hide ((unhide B31).trans (hb.mono (unhide B31).size))
     have S32 : (v31.alloc (.cells #[.int .i64 0, .int .i64 0, .int .i64 0, .int .i64 0, .int .i64 0] 32)).cell? ⟨b, 3, none⟩ = some (.pointer (some ⟨bl, 0, none⟩)) ∧ (v31.alloc (.cells #[.int .i64 0, .int .i64 0, .int .i64 0, .int .i64 0, .int .i64 0] 32)).cell? ⟨b, 4, none⟩ = some (.pointer (some ⟨br, 0, none⟩)) := ⟨((unhide B32).cell (p := ⟨b, 3, none⟩) hblt).trans c3, ((unhide B32).cell (p := ⟨b, 4, none⟩) hblt).trans c4⟩
     have qg32 : w1.heap.size ≤ v31.heap.size := (unhide B31).size
     have ne32 : v31.heap.size ≠ p29 := Nat.ne_of_gt (unhide P31).lt
     clear hb
     go_simp
     refine hK.out _ _ ?_ (fun hHeld32 => ?_)
     ·exact S32
     clear hK K
     try simp only [Act.put, qqA, qqB, qqC]
     generalize v31.alloc (Obj.cells #[.int .i64 0, .int .i64 0, .int .i64 0, .int .i64 0, .int .i64 0] 32) = v32 at Q32 B32 S32 hHeld32 P32 ⊢
     generalize v31.heap.size = q32 at Q32 qg32 ne32 ⊢
     refine wpAnyH_ready (rs := [12]) (by kernel_rfl) (by simp) ?_
     refine AllReadyH.cons (o := oNeeI4) rfl (fun K hK => ?_) (AllReadyH.nil)
     have f5 := (unhide P32).S
     have f6 := (unhide P32).F
     have P33 := hide (put5 (unhide P32) (.int .i64 0) (.int .i64 0) (.int .i64 0) (.int .i64 aw) (.int .i64 ah))
     have Q33 := hide ((((((unhide Q32).far ⟨p29, 0, none⟩ (.int .i64 0) (ne32).symm).far ⟨p29, 1, none⟩ (.int .i64 0) (ne32).symm).far ⟨p29, 2, none⟩ (.int .i64 0) (ne32).symm).far ⟨p29, 3, none⟩ (.int .i64 aw) (ne32).symm).far ⟨p29, 4, none⟩ (.int .i64 ah) (ne32).symm)
     have B33 := hide ((((((unhide B32).setCell (p := ⟨p29, 0, none⟩) pg29 (.int .i64 0)).setCell (p := ⟨p29, 1, none⟩) pg29 (.int .i64 0)).setCell (p := ⟨p29, 2, none⟩) pg29 (.int .i64 0)).setCell (p := ⟨p29, 3, none⟩) pg29 (.int .i64 aw)).setCell (p := ⟨p29, 4, none⟩) pg29 (.int .i64 ah))
     have S33 : (((((v32.setCell ⟨p29, 0, none⟩ (.int .i64 0)).setCell ⟨p29, 1, none⟩ (.int .i64 0)).setCell ⟨p29, 2, none⟩ (.int .i64 0)).setCell ⟨p29, 3, none⟩ (.int .i64 aw)).setCell ⟨p29, 4, none⟩ (.int .i64 ah)).cell? ⟨b, 3, none⟩ = some (.pointer (some ⟨bl, 0, none⟩)) ∧ (((((v32.setCell ⟨p29, 0, none⟩ (.int .i64 0)).setCell ⟨p29, 1, none⟩ (.int .i64 0)).setCell ⟨p29, 2, none⟩ (.int .i64 0)).setCell ⟨p29, 3, none⟩ (.int .i64 aw)).setCell ⟨p29, 4, none⟩ (.int .i64 ah)).cell? ⟨b, 4, none⟩ = some (.pointer (some ⟨br, 0, none⟩)) := ⟨((unhide B33).cell (p := ⟨b, 3, none⟩) hblt).trans c3, ((unhide B33).cell (p := ⟨b, 4, none⟩) hblt).trans c4⟩
     go_simp
     clear f5 f6
     refine hK.out _ _ ?_ (fun hHeld33 => ?_)
     ·exact S33
     clear hK K
     try simp only [Act.put, qqA, qqB, qqC]
     generalize (((((v32.setCell ⟨p29, 0, none⟩ (.int .i64 0)).setCell ⟨p29, 1, none⟩ (.int .i64 0)).setCell ⟨p29, 2, none⟩ (.int .i64 0)).setCell ⟨p29, 3, none⟩ (.int .i64 aw)).setCell ⟨p29, 4, none⟩ (.int .i64 ah)) = v33 at P33 Q33 B33 S33 hHeld33 ⊢
     refine wpAnyH_ready (rs := [13]) (by kernel_rfl) (by simp) ?_
     refine AllReadyH.cons (o := oNeeI5) rfl (fun K hK => ?_) (AllReadyH.nil)
     have f5 := (unhide Q33).S
     have f6 := (unhide Q33).F
     have Q34 := hide (put5 (unhide Q33) (.int .i64 0) (.int .i64 0) (.int .i64 0) (.int .i64 cw) (.int .i64 ch))
     have P34 := hide ((((((unhide P33).far ⟨q32, 0, none⟩ (.int .i64 0) ne32).far ⟨q32, 1, none⟩ (.int .i64 0) ne32).far ⟨q32, 2, none⟩ (.int .i64 0) ne32).far ⟨q32, 3, none⟩ (.int .i64 cw) ne32).far ⟨q32, 4, none⟩ (.int .i64 ch) ne32)
     have B34 := hide ((((((unhide B33).setCell (p := ⟨q32, 0, none⟩) qg32 (.int .i64 0)).setCell (p := ⟨q32, 1, none⟩) qg32 (.int .i64 0)).setCell (p := ⟨q32, 2, none⟩) qg32 (.int .i64 0)).setCell (p := ⟨q32, 3, none⟩) qg32 (.int .i64 cw)).setCell (p := ⟨q32, 4, none⟩) qg32 (.int .i64 ch))
     have S34 : (((((v33.setCell ⟨q32, 0, none⟩ (.int .i64 0)).setCell ⟨q32, 1, none⟩ (.int .i64 0)).setCell ⟨q32, 2, none⟩ (.int .i64 0)).setCell ⟨q32, 3, none⟩ (.int .i64 cw)).setCell ⟨q32, 4, none⟩ (.int .i64 ch)).cell? ⟨b, 3, none⟩ = some (.pointer (some ⟨bl, 0, none⟩)) ∧ (((((v33.setCell ⟨q32, 0, none⟩ (.int .i64 0)).setCell ⟨q32, 1, none⟩ (.int .i64 0)).setCell ⟨q32, 2, none⟩ (.int .i64 0)).setCell ⟨q32, 3, none⟩ (.int .i64 cw)).setCell ⟨q32, 4, none⟩ (.int .i64 ch)).cell? ⟨b, 4, none⟩ = some (.pointer (some ⟨br, 0, none⟩)) := ⟨((unhide B34).cell (p := ⟨b, 3, none⟩) hblt).trans c3, ((unhide B34).cell (p := ⟨b, 4, none⟩) hblt).trans c4⟩
     go_simp
     clear f5 f6
     refine hK.out _ _ ?_ (fun hHeld34 => ?_)
     ·exact S34
     clear hK K
     try simp only [Act.put, qqA, qqB, qqC]
     generalize (((((v33.setCell ⟨q32, 0, none⟩ (.int .i64 0)).setCell ⟨q32, 1, none⟩ (.int .i64 0)).setCell ⟨q32, 2, none⟩ (.int .i64 0)).setCell ⟨q32, 3, none⟩ (.int .i64 cw)).setCell ⟨q32, 4, none⟩ (.int .i64 ch)) = v34 at Q34 P34 B34 S34 hHeld34 ⊢
     refine wpAnyH_done (by kernel_rfl) ?_ _
     have cp := (unhide P34).S
     have cq := (unhide Q34).S
     have cb := (unhide HBF).below (unhide B34)
     have cr := (unhide BR).below (unhide B34)
     have cb1 : v34.cell? ⟨b, 1, none⟩ = some (.bool r) := cb.S 1
     have cr1 := cr.S
     have cr2 := cr.F
     have HBZ := hide ((unhide HB0).trans ((unhide B34).mono (unhide HB0).size))
     have f0 := hide (put5 cr (.int .i64 0) (.int .i64 0) (.int .i64 0) (.int .i64 (aw + cw)) (.int .i64 (mx ah ch)))
     have f1 := hide (put5 cr (.int .i64 0) (.int .i64 0) (.int .i64 0) (.int .i64 (mx aw cw)) (.int .i64 (ah + ch)))
     clear cb cr c3 c4
     cases r
     ·have hx : XW = aw + cw := by simpa using unhide HXW
      have hy : XH = mx ah ch := by simpa using unhide HXH
      clear HXW HXH
      subst hx hy
      go_wp2_with fail
      have f2 := (unhide f0).S
      refine bodyPost_ret (v := .agg #[.int .i64 0, .int .i64 0, .int .i64 0, .int .i64 (aw + cw), .int .i64 (mx ah ch)]) (by simp [results, Tryd.results53, go_sem, f2]) rfl ⟨rfl, ?_⟩
      iterate 5 refine Below.setCell ?_ (by exact Nat.le_refl _) _
      exact unhide HBZ
     ·have hx : XW = mx aw cw := by simpa using unhide HXW
      have hy : XH = ah + ch := by simpa using unhide HXH
      clear HXW HXH
      subst hx hy
      go_wp2_with fail
      have f2 := (unhide f1).S
      refine bodyPost_ret (v := .agg #[.int .i64 0, .int .i64 0, .int .i64 0, .int .i64 (mx aw cw), .int .i64 (ah + ch)]) (by simp [results, Tryd.results53, go_sem, f2]) rfl ⟨rfl, ?_⟩
      iterate 5 refine Below.setCell ?_ (by exact Nat.le_refl _) _
      exact unhide HBZ
    ·skip
     have hb : Below v30.heap.size v30 (v30.alloc (.cells #[.int .i64 0, .int .i64 0, .int .i64 0, .int .i64 0, .int .i64 0] 32)) := (Below.refl _ _).alloc (Nat.le_refl _) _
     have P35 := hide ((unhide P30).below hb)
     have Q35 := hide (BF.new v30 #[.int .i64 0, .int .i64 0, .int .i64 0, .int .i64 0, .int .i64 0] 32)
     have B35 := hide ((unhide B30).trans (hb.mono (unhide B30).size))
     have S35 : (v30.alloc (.cells #[.int .i64 0, .int .i64 0, .int .i64 0, .int .i64 0, .int .i64 0] 32)).cell? ⟨b, 3, none⟩ = some (.pointer (some ⟨bl, 0, none⟩)) ∧ (v30.alloc (.cells #[.int .i64 0, .int .i64 0, .int .i64 0, .int .i64 0, .int .i64 0] 32)).cell? ⟨b, 4, none⟩ = some (.pointer (some ⟨br, 0, none⟩)) := ⟨((unhide B35).cell (p := ⟨b, 3, none⟩) hblt).trans c3, ((unhide B35).cell (p := ⟨b, 4, none⟩) hblt).trans c4⟩
     have qg35 : w1.heap.size ≤ v30.heap.size := (unhide B30).size
     have ne35 : v30.heap.size ≠ p29 := Nat.ne_of_gt (unhide P30).lt
     clear hb
     go_simp
     refine hK.out _ _ ?_ (fun hHeld35 => ?_)
     ·exact S35
     clear hK K
     try simp only [Act.put, qqA, qqB, qqC]
     generalize v30.alloc (Obj.cells #[.int .i64 0, .int .i64 0, .int .i64 0, .int .i64 0, .int .i64 0] 32) = v35 at Q35 B35 S35 hHeld35 P35 ⊢
     generalize v30.heap.size = q35 at Q35 qg35 ne35 ⊢
     refine wpAnyH_ready (rs := [9]) (by kernel_rfl) (by simp) ?_
     refine AllReadyH.cons (o := oNeeI3) rfl (fun K hK => ?_) (AllReadyH.nil)
     go_simp
     refine (unhide HJ br Rs _ ((unhide HTR).below (unhide B35)) (unhide HR1)).mono ?_
     rw [← unhide HE3, ← unhide HE4]
     rintro e v36 ⟨rfl, hb⟩
     have P36 := hide ((unhide P35).below hb)
     have Q36 := hide ((unhide Q35).below hb)
     have B36 := hide ((unhide B35).trans (hb.mono (unhide B35).size))
     have S36 : v36.cell? ⟨b, 3, none⟩ = some (.pointer (some ⟨bl, 0, none⟩)) ∧ v36.cell? ⟨b, 4, none⟩ = some (.pointer (some ⟨br, 0, none⟩)) := ⟨((unhide B36).cell (p := ⟨b, 3, none⟩) hblt).trans c3, ((unhide B36).cell (p := ⟨b, 4, none⟩) hblt).trans c4⟩
     clear hb
     go_wp2_with fail
     refine hK.out _ _ ?_ (fun hHeld36 => ?_)
     ·exact S36
     clear hK K
     try simp only [Act.put, qqA, qqB, qqC]
     refine wpAnyH_ready (rs := [12]) (by kernel_rfl) (by simp) ?_
     refine AllReadyH.cons (o := oNeeI4) rfl (fun K hK => ?_) (AllReadyH.nil)
     have f5 := (unhide P36).S
     have f6 := (unhide P36).F
     have P37 := hide (put5 (unhide P36) (.int .i64 0) (.int .i64 0) (.int .i64 0) (.int .i64 aw) (.int .i64 ah))
     have Q37 := hide ((((((unhide Q36).far ⟨p29, 0, none⟩ (.int .i64 0) (ne35).symm).far ⟨p29, 1, none⟩ (.int .i64 0) (ne35).symm).far ⟨p29, 2, none⟩ (.int .i64 0) (ne35).symm).far ⟨p29, 3, none⟩ (.int .i64 aw) (ne35).symm).far ⟨p29, 4, none⟩ (.int .i64 ah) (ne35).symm)
     have B37 := hide ((((((unhide B36).setCell (p := ⟨p29, 0, none⟩) pg29 (.int .i64 0)).setCell (p := ⟨p29, 1, none⟩) pg29 (.int .i64 0)).setCell (p := ⟨p29, 2, none⟩) pg29 (.int .i64 0)).setCell (p := ⟨p29, 3, none⟩) pg29 (.int .i64 aw)).setCell (p := ⟨p29, 4, none⟩) pg29 (.int .i64 ah))
     have S37 : (((((v36.setCell ⟨p29, 0, none⟩ (.int .i64 0)).setCell ⟨p29, 1, none⟩ (.int .i64 0)).setCell ⟨p29, 2, none⟩ (.int .i64 0)).setCell ⟨p29, 3, none⟩ (.int .i64 aw)).setCell ⟨p29, 4, none⟩ (.int .i64 ah)).cell? ⟨b, 3, none⟩ = some (.pointer (some ⟨bl, 0, none⟩)) ∧ (((((v36.setCell ⟨p29, 0, none⟩ (.int .i64 0)).setCell ⟨p29, 1, none⟩ (.int .i64 0)).setCell ⟨p29, 2, none⟩ (.int .i64 0)).setCell ⟨p29, 3, none⟩ (.int .i64 aw)).setCell ⟨p29, 4, none⟩ (.int .i64 ah)).cell? ⟨b, 4, none⟩ = some (.pointer (some ⟨br, 0, none⟩)) := ⟨((unhide B37).cell (p := ⟨b, 3, none⟩) hblt).trans c3, ((unhide B37).cell (p := ⟨b, 4, none⟩) hblt).trans c4⟩
     go_simp
     clear f5 f6
     refine hK.out _ _ ?_ (fun hHeld37 => ?_)
     ·exact S37
     clear hK K
     try simp only [Act.put, qqA, qqB, qqC]
     generalize (((((v36.setCell ⟨p29, 0, none⟩ (.int .i64 0)).setCell ⟨p29, 1, none⟩ (.int .i64 0)).setCell ⟨p29, 2, none⟩ (.int .i64 0)).setCell ⟨p29, 3, none⟩ (.int .i64 aw)).setCell ⟨p29, 4, none⟩ (.int .i64 ah)) = v37 at P37 Q37 B37 S37 hHeld37 ⊢
     refine wpAnyH_ready (rs := [13]) (by kernel_rfl) (by simp) ?_
     refine AllReadyH.cons (o := oNeeI5) rfl (fun K hK => ?_) (AllReadyH.nil)
     have f5 := (unhide Q37).S
     have f6 := (unhide Q37).F
     have Q38 := hide (put5 (unhide Q37) (.int .i64 0) (.int .i64 0) (.int .i64 0) (.int .i64 cw) (.int .i64 ch))
     have P38 := hide ((((((unhide P37).far ⟨q35, 0, none⟩ (.int .i64 0) ne35).far ⟨q35, 1, none⟩ (.int .i64 0) ne35).far ⟨q35, 2, none⟩ (.int .i64 0) ne35).far ⟨q35, 3, none⟩ (.int .i64 cw) ne35).far ⟨q35, 4, none⟩ (.int .i64 ch) ne35)
     have B38 := hide ((((((unhide B37).setCell (p := ⟨q35, 0, none⟩) qg35 (.int .i64 0)).setCell (p := ⟨q35, 1, none⟩) qg35 (.int .i64 0)).setCell (p := ⟨q35, 2, none⟩) qg35 (.int .i64 0)).setCell (p := ⟨q35, 3, none⟩) qg35 (.int .i64 cw)).setCell (p := ⟨q35, 4, none⟩) qg35 (.int .i64 ch))
     have S38 : (((((v37.setCell ⟨q35, 0, none⟩ (.int .i64 0)).setCell ⟨q35, 1, none⟩ (.int .i64 0)).setCell ⟨q35, 2, none⟩ (.int .i64 0)).setCell ⟨q35, 3, none⟩ (.int .i64 cw)).setCell ⟨q35, 4, none⟩ (.int .i64 ch)).cell? ⟨b, 3, none⟩ = some (.pointer (some ⟨bl, 0, none⟩)) ∧ (((((v37.setCell ⟨q35, 0, none⟩ (.int .i64 0)).setCell ⟨q35, 1, none⟩ (.int .i64 0)).setCell ⟨q35, 2, none⟩ (.int .i64 0)).setCell ⟨q35, 3, none⟩ (.int .i64 cw)).setCell ⟨q35, 4, none⟩ (.int .i64 ch)).cell? ⟨b, 4, none⟩ = some (.pointer (some ⟨br, 0, none⟩)) := ⟨((unhide B38).cell (p := ⟨b, 3, none⟩) hblt).trans c3, ((unhide B38).cell (p := ⟨b, 4, none⟩) hblt).trans c4⟩
     go_simp
     clear f5 f6
     refine hK.out _ _ ?_ (fun hHeld38 => ?_)
     ·exact S38
     clear hK K
     try simp only [Act.put, qqA, qqB, qqC]
     generalize (((((v37.setCell ⟨q35, 0, none⟩ (.int .i64 0)).setCell ⟨q35, 1, none⟩ (.int .i64 0)).setCell ⟨q35, 2, none⟩ (.int .i64 0)).setCell ⟨q35, 3, none⟩ (.int .i64 cw)).setCell ⟨q35, 4, none⟩ (.int .i64 ch)) = v38 at Q38 P38 B38 S38 hHeld38 ⊢
     refine wpAnyH_done (by kernel_rfl) ?_ _
     have cp := (unhide P38).S
     have cq := (unhide Q38).S
     have cb := (unhide HBF).below (unhide B38)
     have cr := (unhide BR).below (unhide B38)
     have cb1 : v38.cell? ⟨b, 1, none⟩ = some (.bool r) := cb.S 1
     have cr1 := cr.S
     have cr2 := cr.F
     have HBZ := hide ((unhide HB0).trans ((unhide B38).mono (unhide HB0).size))
     have f0 := hide (put5 cr (.int .i64 0) (.int .i64 0) (.int .i64 0) (.int .i64 (aw + cw)) (.int .i64 (mx ah ch)))
     have f1 := hide (put5 cr (.int .i64 0) (.int .i64 0) (.int .i64 0) (.int .i64 (mx aw cw)) (.int .i64 (ah + ch)))
     clear cb cr c3 c4
     cases r
     ·have hx : XW = aw + cw := by simpa using unhide HXW
      have hy : XH = mx ah ch := by simpa using unhide HXH
      clear HXW HXH
      subst hx hy
      go_wp2_with fail
      have f2 := (unhide f0).S
      refine bodyPost_ret (v := .agg #[.int .i64 0, .int .i64 0, .int .i64 0, .int .i64 (aw + cw), .int .i64 (mx ah ch)]) (by simp [results, Tryd.results53, go_sem, f2]) rfl ⟨rfl, ?_⟩
      iterate 5 refine Below.setCell ?_ (by exact Nat.le_refl _) _
      exact unhide HBZ
     ·have hx : XW = mx aw cw := by simpa using unhide HXW
      have hy : XH = ah + ch := by simpa using unhide HXH
      clear HXW HXH
      subst hx hy
      go_wp2_with fail
      have f2 := (unhide f1).S
      refine bodyPost_ret (v := .agg #[.int .i64 0, .int .i64 0, .int .i64 0, .int .i64 (mx aw cw), .int .i64 (ah + ch)]) (by simp [results, Tryd.results53, go_sem, f2]) rfl ⟨rfl, ?_⟩
      iterate 5 refine Below.setCell ?_ (by exact Nat.le_refl _) _
      exact unhide HBZ
   ·skip
    have hb : Below v29.heap.size v29 (v29.alloc (.cells #[.int .i64 0, .int .i64 0, .int .i64 0, .int .i64 0, .int .i64 0] 32)) := (Below.refl _ _).alloc (Nat.le_refl _) _
    have P39 := hide ((unhide P29).below hb)
    have Q39 := hide (BF.new v29 #[.int .i64 0, .int .i64 0, .int .i64 0, .int .i64 0, .int .i64 0] 32)
    have B39 := hide ((unhide B29).trans (hb.mono (unhide B29).size))
    have S39 : (v29.alloc (.cells #[.int .i64 0, .int .i64 0, .int .i64 0, .int .i64 0, .int .i64 0] 32)).cell? ⟨b, 3, none⟩ = some (.pointer (some ⟨bl, 0, none⟩)) ∧ (v29.alloc (.cells #[.int .i64 0, .int .i64 0, .int .i64 0, .int .i64 0, .int .i64 0] 32)).cell? ⟨b, 4, none⟩ = some (.pointer (some ⟨br, 0, none⟩)) := ⟨((unhide B39).cell (p := ⟨b, 3, none⟩) hblt).trans c3, ((unhide B39).cell (p := ⟨b, 4, none⟩) hblt).trans c4⟩
    have qg39 : w1.heap.size ≤ v29.heap.size := (unhide B29).size
    have ne39 : v29.heap.size ≠ p29 := Nat.ne_of_gt (unhide P29).lt
    clear hb
    go_simp
    refine hK.out _ _ ?_ (fun hHeld39 => ?_)
    ·exact S39
    clear hK K
    try simp only [Act.put, qqA, qqB, qqC]
    generalize v29.alloc (Obj.cells #[.int .i64 0, .int .i64 0, .int .i64 0, .int .i64 0, .int .i64 0] 32) = v39 at Q39 B39 S39 hHeld39 P39 ⊢
    generalize v29.heap.size = q39 at Q39 qg39 ne39 ⊢
    refine wpAnyH_ready (rs := [4]) (by kernel_rfl) (by simp) ?_
    refine AllReadyH.cons (o := oNeeI0) rfl (fun K hK => ?_) (AllReadyH.nil)
    go_simp
    refine (unhide HI bl Ls _ ((unhide HTL).below (unhide B39)) (unhide HL1)).mono ?_
    rw [← unhide HE1, ← unhide HE2]
    rintro e v40 ⟨rfl, hb⟩
    have P40 := hide ((unhide P39).below hb)
    have Q40 := hide ((unhide Q39).below hb)
    have B40 := hide ((unhide B39).trans (hb.mono (unhide B39).size))
    have S40 : v40.cell? ⟨b, 3, none⟩ = some (.pointer (some ⟨bl, 0, none⟩)) ∧ v40.cell? ⟨b, 4, none⟩ = some (.pointer (some ⟨br, 0, none⟩)) := ⟨((unhide B40).cell (p := ⟨b, 3, none⟩) hblt).trans c3, ((unhide B40).cell (p := ⟨b, 4, none⟩) hblt).trans c4⟩
    clear hb
    go_wp2_with fail
    refine hK.out _ _ ?_ (fun hHeld40 => ?_)
    ·exact S40
    clear hK K
    try simp only [Act.put, qqA, qqB, qqC]
    refine wpAnyH_ready (rs := [9]) (by kernel_rfl) (by simp) ?_
    refine AllReadyH.cons (o := oNeeI3) rfl (fun K hK => ?_) (AllReadyH.nil)
    go_simp
    refine (unhide HJ br Rs _ ((unhide HTR).below (unhide B40)) (unhide HR1)).mono ?_
    rw [← unhide HE3, ← unhide HE4]
    rintro e v41 ⟨rfl, hb⟩
    have P41 := hide ((unhide P40).below hb)
    have Q41 := hide ((unhide Q40).below hb)
    have B41 := hide ((unhide B40).trans (hb.mono (unhide B40).size))
    have S41 : v41.cell? ⟨b, 3, none⟩ = some (.pointer (some ⟨bl, 0, none⟩)) ∧ v41.cell? ⟨b, 4, none⟩ = some (.pointer (some ⟨br, 0, none⟩)) := ⟨((unhide B41).cell (p := ⟨b, 3, none⟩) hblt).trans c3, ((unhide B41).cell (p := ⟨b, 4, none⟩) hblt).trans c4⟩
    clear hb
    go_wp2_with fail
    refine hK.out _ _ ?_ (fun hHeld41 => ?_)
    ·exact S41
    clear hK K
    try simp only [Act.put, qqA, qqB, qqC]
    refine wpAnyH_ready (rs := [12]) (by kernel_rfl) (by simp) ?_
    refine AllReadyH.cons (o := oNeeI4) rfl (fun K hK => ?_) (AllReadyH.nil)
    have f5 := (unhide P41).S
    have f6 := (unhide P41).F
    have P42 := hide (put5 (unhide P41) (.int .i64 0) (.int .i64 0) (.int .i64 0) (.int .i64 aw) (.int .i64 ah))
    have Q42 := hide ((((((unhide Q41).far ⟨p29, 0, none⟩ (.int .i64 0) (ne39).symm).far ⟨p29, 1, none⟩ (.int .i64 0) (ne39).symm).far ⟨p29, 2, none⟩ (.int .i64 0) (ne39).symm).far ⟨p29, 3, none⟩ (.int .i64 aw) (ne39).symm).far ⟨p29, 4, none⟩ (.int .i64 ah) (ne39).symm)
    have B42 := hide ((((((unhide B41).setCell (p := ⟨p29, 0, none⟩) pg29 (.int .i64 0)).setCell (p := ⟨p29, 1, none⟩) pg29 (.int .i64 0)).setCell (p := ⟨p29, 2, none⟩) pg29 (.int .i64 0)).setCell (p := ⟨p29, 3, none⟩) pg29 (.int .i64 aw)).setCell (p := ⟨p29, 4, none⟩) pg29 (.int .i64 ah))
    have S42 : (((((v41.setCell ⟨p29, 0, none⟩ (.int .i64 0)).setCell ⟨p29, 1, none⟩ (.int .i64 0)).setCell ⟨p29, 2, none⟩ (.int .i64 0)).setCell ⟨p29, 3, none⟩ (.int .i64 aw)).setCell ⟨p29, 4, none⟩ (.int .i64 ah)).cell? ⟨b, 3, none⟩ = some (.pointer (some ⟨bl, 0, none⟩)) ∧ (((((v41.setCell ⟨p29, 0, none⟩ (.int .i64 0)).setCell ⟨p29, 1, none⟩ (.int .i64 0)).setCell ⟨p29, 2, none⟩ (.int .i64 0)).setCell ⟨p29, 3, none⟩ (.int .i64 aw)).setCell ⟨p29, 4, none⟩ (.int .i64 ah)).cell? ⟨b, 4, none⟩ = some (.pointer (some ⟨br, 0, none⟩)) := ⟨((unhide B42).cell (p := ⟨b, 3, none⟩) hblt).trans c3, ((unhide B42).cell (p := ⟨b, 4, none⟩) hblt).trans c4⟩
    go_simp
    clear f5 f6
    refine hK.out _ _ ?_ (fun hHeld42 => ?_)
    ·exact S42
    clear hK K
    try simp only [Act.put, qqA, qqB, qqC]
    generalize (((((v41.setCell ⟨p29, 0, none⟩ (.int .i64 0)).setCell ⟨p29, 1, none⟩ (.int .i64 0)).setCell ⟨p29, 2, none⟩ (.int .i64 0)).setCell ⟨p29, 3, none⟩ (.int .i64 aw)).setCell ⟨p29, 4, none⟩ (.int .i64 ah)) = v42 at P42 Q42 B42 S42 hHeld42 ⊢
    refine wpAnyH_ready (rs := [13]) (by kernel_rfl) (by simp) ?_
    refine AllReadyH.cons (o := oNeeI5) rfl (fun K hK => ?_) (AllReadyH.nil)
    have f5 := (unhide Q42).S
    have f6 := (unhide Q42).F
    have Q43 := hide (put5 (unhide Q42) (.int .i64 0) (.int .i64 0) (.int .i64 0) (.int .i64 cw) (.int .i64 ch))
    have P43 := hide ((((((unhide P42).far ⟨q39, 0, none⟩ (.int .i64 0) ne39).far ⟨q39, 1, none⟩ (.int .i64 0) ne39).far ⟨q39, 2, none⟩ (.int .i64 0) ne39).far ⟨q39, 3, none⟩ (.int .i64 cw) ne39).far ⟨q39, 4, none⟩ (.int .i64 ch) ne39)
    have B43 := hide ((((((unhide B42).setCell (p := ⟨q39, 0, none⟩) qg39 (.int .i64 0)).setCell (p := ⟨q39, 1, none⟩) qg39 (.int .i64 0)).setCell (p := ⟨q39, 2, none⟩) qg39 (.int .i64 0)).setCell (p := ⟨q39, 3, none⟩) qg39 (.int .i64 cw)).setCell (p := ⟨q39, 4, none⟩) qg39 (.int .i64 ch))
    have S43 : (((((v42.setCell ⟨q39, 0, none⟩ (.int .i64 0)).setCell ⟨q39, 1, none⟩ (.int .i64 0)).setCell ⟨q39, 2, none⟩ (.int .i64 0)).setCell ⟨q39, 3, none⟩ (.int .i64 cw)).setCell ⟨q39, 4, none⟩ (.int .i64 ch)).cell? ⟨b, 3, none⟩ = some (.pointer (some ⟨bl, 0, none⟩)) ∧ (((((v42.setCell ⟨q39, 0, none⟩ (.int .i64 0)).setCell ⟨q39, 1, none⟩ (.int .i64 0)).setCell ⟨q39, 2, none⟩ (.int .i64 0)).setCell ⟨q39, 3, none⟩ (.int .i64 cw)).setCell ⟨q39, 4, none⟩ (.int .i64 ch)).cell? ⟨b, 4, none⟩ = some (.pointer (some ⟨br, 0, none⟩)) := ⟨((unhide B43).cell (p := ⟨b, 3, none⟩) hblt).trans c3, ((unhide B43).cell (p := ⟨b, 4, none⟩) hblt).trans c4⟩
    go_simp
    clear f5 f6
    refine hK.out _ _ ?_ (fun hHeld43 => ?_)
    ·exact S43
    clear hK K
    try simp only [Act.put, qqA, qqB, qqC]
    generalize (((((v42.setCell ⟨q39, 0, none⟩ (.int .i64 0)).setCell ⟨q39, 1, none⟩ (.int .i64 0)).setCell ⟨q39, 2, none⟩ (.int .i64 0)).setCell ⟨q39, 3, none⟩ (.int .i64 cw)).setCell ⟨q39, 4, none⟩ (.int .i64 ch)) = v43 at Q43 P43 B43 S43 hHeld43 ⊢
    refine wpAnyH_done (by kernel_rfl) ?_ _
    have cp := (unhide P43).S
    have cq := (unhide Q43).S
    have cb := (unhide HBF).below (unhide B43)
    have cr := (unhide BR).below (unhide B43)
    have cb1 : v43.cell? ⟨b, 1, none⟩ = some (.bool r) := cb.S 1
    have cr1 := cr.S
    have cr2 := cr.F
    have HBZ := hide ((unhide HB0).trans ((unhide B43).mono (unhide HB0).size))
    have f0 := hide (put5 cr (.int .i64 0) (.int .i64 0) (.int .i64 0) (.int .i64 (aw + cw)) (.int .i64 (mx ah ch)))
    have f1 := hide (put5 cr (.int .i64 0) (.int .i64 0) (.int .i64 0) (.int .i64 (mx aw cw)) (.int .i64 (ah + ch)))
    clear cb cr c3 c4
    cases r
    ·have hx : XW = aw + cw := by simpa using unhide HXW
     have hy : XH = mx ah ch := by simpa using unhide HXH
     clear HXW HXH
     subst hx hy
     go_wp2_with fail
     have f2 := (unhide f0).S
     refine bodyPost_ret (v := .agg #[.int .i64 0, .int .i64 0, .int .i64 0, .int .i64 (aw + cw), .int .i64 (mx ah ch)]) (by simp [results, Tryd.results53, go_sem, f2]) rfl ⟨rfl, ?_⟩
     iterate 5 refine Below.setCell ?_ (by exact Nat.le_refl _) _
     exact unhide HBZ
    ·have hx : XW = mx aw cw := by simpa using unhide HXW
     have hy : XH = ah + ch := by simpa using unhide HXH
     clear HXW HXH
     subst hx hy
     go_wp2_with fail
     have f2 := (unhide f1).S
     refine bodyPost_ret (v := .agg #[.int .i64 0, .int .i64 0, .int .i64 0, .int .i64 (mx aw cw), .int .i64 (ah + ch)]) (by simp [results, Tryd.results53, go_sem, f2]) rfl ⟨rfl, ?_⟩
     iterate 5 refine Below.setCell ?_ (by exact Nat.le_refl _) _
     exact unhide HBZ
  ·skip
   have hb : Below v0.heap.size v0 (v0.alloc (.cells #[.int .i64 0, .int .i64 0, .int .i64 0, .int .i64 0, .int .i64 0] 32)) := (Below.refl _ _).alloc (Nat.le_refl _) _
   have Q44 := hide (BF.new v0 #[.int .i64 0, .int .i64 0, .int .i64 0, .int .i64 0, .int .i64 0] 32)
   have B44 := hide ((unhide B0).trans (hb.mono (unhide B0).size))
   have S44 : (v0.alloc (.cells #[.int .i64 0, .int .i64 0, .int .i64 0, .int .i64 0, .int .i64 0] 32)).cell? ⟨b, 3, none⟩ = some (.pointer (some ⟨bl, 0, none⟩)) ∧ (v0.alloc (.cells #[.int .i64 0, .int .i64 0, .int .i64 0, .int .i64 0, .int .i64 0] 32)).cell? ⟨b, 4, none⟩ = some (.pointer (some ⟨br, 0, none⟩)) := ⟨((unhide B44).cell (p := ⟨b, 3, none⟩) hblt).trans c3, ((unhide B44).cell (p := ⟨b, 4, none⟩) hblt).trans c4⟩
   have qg44 : w1.heap.size ≤ v0.heap.size := (unhide B0).size
   clear hb
   go_simp
   refine hK.out _ _ ?_ (fun hHeld44 => ?_)
   ·exact S44
   clear hK K
   try simp only [Act.put, qqA, qqB, qqC]
   generalize v0.alloc (Obj.cells #[.int .i64 0, .int .i64 0, .int .i64 0, .int .i64 0, .int .i64 0] 32) = v44 at Q44 B44 S44 hHeld44 ⊢
   generalize v0.heap.size = q44 at Q44 qg44 ⊢
   refine wpAnyH_ready (rs := [4, 10]) (by kernel_rfl) (by simp) ?_
   refine AllReadyH.cons (o := oNeeI0) rfl (fun K hK => ?_) (AllReadyH.cons (o := oNeeI1) rfl (fun K hK => ?_) (AllReadyH.nil))
   ·skip
    go_simp
    refine (unhide HI bl Ls _ ((unhide HTL).below (unhide B44)) (unhide HL1)).mono ?_
    rw [← unhide HE1, ← unhide HE2]
    rintro e v45 ⟨rfl, hb⟩
    have Q45 := hide ((unhide Q44).below hb)
    have B45 := hide ((unhide B44).trans (hb.mono (unhide B44).size))
    have S45 : v45.cell? ⟨b, 3, none⟩ = some (.pointer (some ⟨bl, 0, none⟩)) ∧ v45.cell? ⟨b, 4, none⟩ = some (.pointer (some ⟨br, 0, none⟩)) := ⟨((unhide B45).cell (p := ⟨b, 3, none⟩) hblt).trans c3, ((unhide B45).cell (p := ⟨b, 4, none⟩) hblt).trans c4⟩
    clear hb
    go_wp2_with fail
    refine hK.out _ _ ?_ (fun hHeld45 => ?_)
    ·exact S45
    clear hK K
    try simp only [Act.put, qqA, qqB, qqC]
    refine wpAnyH_ready (rs := [9, 10]) (by kernel_rfl) (by simp) ?_
    refine AllReadyH.cons (o := oNeeI3) rfl (fun K hK => ?_) (AllReadyH.cons (o := oNeeI1) rfl (fun K hK => ?_) (AllReadyH.nil))
    ·skip
     go_simp
     refine (unhide HJ br Rs _ ((unhide HTR).below (unhide B45)) (unhide HR1)).mono ?_
     rw [← unhide HE3, ← unhide HE4]
     rintro e v46 ⟨rfl, hb⟩
     have Q46 := hide ((unhide Q45).below hb)
     have B46 := hide ((unhide B45).trans (hb.mono (unhide B45).size))
     have S46 : v46.cell? ⟨b, 3, none⟩ = some (.pointer (some ⟨bl, 0, none⟩)) ∧ v46.cell? ⟨b, 4, none⟩ = some (.pointer (some ⟨br, 0, none⟩)) := ⟨((unhide B46).cell (p := ⟨b, 3, none⟩) hblt).trans c3, ((unhide B46).cell (p := ⟨b, 4, none⟩) hblt).trans c4⟩
     clear hb
     go_wp2_with fail
     refine hK.out _ _ ?_ (fun hHeld46 => ?_)
     ·exact S46
     clear hK K
     try simp only [Act.put, qqA, qqB, qqC]
     refine wpAnyH_ready (rs := [10]) (by kernel_rfl) (by simp) ?_
     refine AllReadyH.cons (o := oNeeI1) rfl (fun K hK => ?_) (AllReadyH.nil)
     have hb : Below v46.heap.size v46 (v46.alloc (.cells #[.int .i64 0, .int .i64 0, .int .i64 0, .int .i64 0, .int .i64 0] 32)) := (Below.refl _ _).alloc (Nat.le_refl _) _
     have Q47 := hide ((unhide Q46).below hb)
     have P47 := hide (BF.new v46 #[.int .i64 0, .int .i64 0, .int .i64 0, .int .i64 0, .int .i64 0] 32)
     have B47 := hide ((unhide B46).trans (hb.mono (unhide B46).size))
     have S47 : (v46.alloc (.cells #[.int .i64 0, .int .i64 0, .int .i64 0, .int .i64 0, .int .i64 0] 32)).cell? ⟨b, 3, none⟩ = some (.pointer (some ⟨bl, 0, none⟩)) ∧ (v46.alloc (.cells #[.int .i64 0, .int .i64 0, .int .i64 0, .int .i64 0, .int .i64 0] 32)).cell? ⟨b, 4, none⟩ = some (.pointer (some ⟨br, 0, none⟩)) := ⟨((unhide B47).cell (p := ⟨b, 3, none⟩) hblt).trans c3, ((unhide B47).cell (p := ⟨b, 4, none⟩) hblt).trans c4⟩
     have pg47 : w1.heap.size ≤ v46.heap.size := (unhide B46).size
     have ne47 : v46.heap.size ≠ q44 := Nat.ne_of_gt (unhide Q46).lt
     clear hb
     go_simp
     refine hK.out _ _ ?_ (fun hHeld47 => ?_)
     ·exact S47
     clear hK K
     try simp only [Act.put, qqA, qqB, qqC]
     generalize v46.alloc (Obj.cells #[.int .i64 0, .int .i64 0, .int .i64 0, .int .i64 0, .int .i64 0] 32) = v47 at P47 B47 S47 hHeld47 Q47 ⊢
     generalize v46.heap.size = p47 at P47 pg47 ne47 ⊢
     refine wpAnyH_ready (rs := [12]) (by kernel_rfl) (by simp) ?_
     refine AllReadyH.cons (o := oNeeI4) rfl (fun K hK => ?_) (AllReadyH.nil)
     have f5 := (unhide P47).S
     have f6 := (unhide P47).F
     have P48 := hide (put5 (unhide P47) (.int .i64 0) (.int .i64 0) (.int .i64 0) (.int .i64 aw) (.int .i64 ah))
     have Q48 := hide ((((((unhide Q47).far ⟨p47, 0, none⟩ (.int .i64 0) ne47).far ⟨p47, 1, none⟩ (.int .i64 0) ne47).far ⟨p47, 2, none⟩ (.int .i64 0) ne47).far ⟨p47, 3, none⟩ (.int .i64 aw) ne47).far ⟨p47, 4, none⟩ (.int .i64 ah) ne47)
     have B48 := hide ((((((unhide B47).setCell (p := ⟨p47, 0, none⟩) pg47 (.int .i64 0)).setCell (p := ⟨p47, 1, none⟩) pg47 (.int .i64 0)).setCell (p := ⟨p47, 2, none⟩) pg47 (.int .i64 0)).setCell (p := ⟨p47, 3, none⟩) pg47 (.int .i64 aw)).setCell (p := ⟨p47, 4, none⟩) pg47 (.int .i64 ah))
     have S48 : (((((v47.setCell ⟨p47, 0, none⟩ (.int .i64 0)).setCell ⟨p47, 1, none⟩ (.int .i64 0)).setCell ⟨p47, 2, none⟩ (.int .i64 0)).setCell ⟨p47, 3, none⟩ (.int .i64 aw)).setCell ⟨p47, 4, none⟩ (.int .i64 ah)).cell? ⟨b, 3, none⟩ = some (.pointer (some ⟨bl, 0, none⟩)) ∧ (((((v47.setCell ⟨p47, 0, none⟩ (.int .i64 0)).setCell ⟨p47, 1, none⟩ (.int .i64 0)).setCell ⟨p47, 2, none⟩ (.int .i64 0)).setCell ⟨p47, 3, none⟩ (.int .i64 aw)).setCell ⟨p47, 4, none⟩ (.int .i64 ah)).cell? ⟨b, 4, none⟩ = some (.pointer (some ⟨br, 0, none⟩)) := ⟨((unhide B48).cell (p := ⟨b, 3, none⟩) hblt).trans c3, ((unhide B48).cell (p := ⟨b, 4, none⟩) hblt).trans c4⟩
     go_simp
     clear f5 f6
     refine hK.out _ _ ?_ (fun hHeld48 => ?_)
     ·exact S48
     clear hK K
     try simp only [Act.put, qqA, qqB, qqC]
     generalize (((((v47.setCell ⟨p47, 0, none⟩ (.int .i64 0)).setCell ⟨p47, 1, none⟩ (.int .i64 0)).setCell ⟨p47, 2, none⟩ (.int .i64 0)).setCell ⟨p47, 3, none⟩ (.int .i64 aw)).setCell ⟨p47, 4, none⟩ (.int .i64 ah)) = v48 at P48 Q48 B48 S48 hHeld48 ⊢
     refine wpAnyH_ready (rs := [13]) (by kernel_rfl) (by simp) ?_
     refine AllReadyH.cons (o := oNeeI5) rfl (fun K hK => ?_) (AllReadyH.nil)
     have f5 := (unhide Q48).S
     have f6 := (unhide Q48).F
     have Q49 := hide (put5 (unhide Q48) (.int .i64 0) (.int .i64 0) (.int .i64 0) (.int .i64 cw) (.int .i64 ch))
     have P49 := hide ((((((unhide P48).far ⟨q44, 0, none⟩ (.int .i64 0) (ne47).symm).far ⟨q44, 1, none⟩ (.int .i64 0) (ne47).symm).far ⟨q44, 2, none⟩ (.int .i64 0) (ne47).symm).far ⟨q44, 3, none⟩ (.int .i64 cw) (ne47).symm).far ⟨q44, 4, none⟩ (.int .i64 ch) (ne47).symm)
     have B49 := hide ((((((unhide B48).setCell (p := ⟨q44, 0, none⟩) qg44 (.int .i64 0)).setCell (p := ⟨q44, 1, none⟩) qg44 (.int .i64 0)).setCell (p := ⟨q44, 2, none⟩) qg44 (.int .i64 0)).setCell (p := ⟨q44, 3, none⟩) qg44 (.int .i64 cw)).setCell (p := ⟨q44, 4, none⟩) qg44 (.int .i64 ch))
     have S49 : (((((v48.setCell ⟨q44, 0, none⟩ (.int .i64 0)).setCell ⟨q44, 1, none⟩ (.int .i64 0)).setCell ⟨q44, 2, none⟩ (.int .i64 0)).setCell ⟨q44, 3, none⟩ (.int .i64 cw)).setCell ⟨q44, 4, none⟩ (.int .i64 ch)).cell? ⟨b, 3, none⟩ = some (.pointer (some ⟨bl, 0, none⟩)) ∧ (((((v48.setCell ⟨q44, 0, none⟩ (.int .i64 0)).setCell ⟨q44, 1, none⟩ (.int .i64 0)).setCell ⟨q44, 2, none⟩ (.int .i64 0)).setCell ⟨q44, 3, none⟩ (.int .i64 cw)).setCell ⟨q44, 4, none⟩ (.int .i64 ch)).cell? ⟨b, 4, none⟩ = some (.pointer (some ⟨br, 0, none⟩)) := ⟨((unhide B49).cell (p := ⟨b, 3, none⟩) hblt).trans c3, ((unhide B49).cell (p := ⟨b, 4, none⟩) hblt).trans c4⟩
     go_simp
     clear f5 f6
     refine hK.out _ _ ?_ (fun hHeld49 => ?_)
     ·exact S49
     clear hK K
     try simp only [Act.put, qqA, qqB, qqC]
     generalize (((((v48.setCell ⟨q44, 0, none⟩ (.int .i64 0)).setCell ⟨q44, 1, none⟩ (.int .i64 0)).setCell ⟨q44, 2, none⟩ (.int .i64 0)).setCell ⟨q44, 3, none⟩ (.int .i64 cw)).setCell ⟨q44, 4, none⟩ (.int .i64 ch)) = v49 at Q49 P49 B49 S49 hHeld49 ⊢
     refine wpAnyH_done (by kernel_rfl) ?_ _
     have cp := (unhide P49).S
     have cq := (unhide Q49).S
     have cb := (unhide HBF).below (unhide B49)
     have cr := (unhide BR).below (unhide B49)
     have cb1 : v49.cell? ⟨b, 1, none⟩ = some (.bool r) := cb.S 1
     have cr1 := cr.S
     have cr2 := cr.F
     have HBZ := hide ((unhide HB0).trans ((unhide B49).mono (unhide HB0).size))
     have f0 := hide (put5 cr (.int .i64 0) (.int .i64 0) (.int .i64 0) (.int .i64 (aw + cw)) (.int .i64 (mx ah ch)))
     have f1 := hide (put5 cr (.int .i64 0) (.int .i64 0) (.int .i64 0) (.int .i64 (mx aw cw)) (.int .i64 (ah + ch)))
     clear cb cr c3 c4
     cases r
     ·have hx : XW = aw + cw := by simpa using unhide HXW
      have hy : XH = mx ah ch := by simpa using unhide HXH
      clear HXW HXH
      subst hx hy
      go_wp2_with fail
      have f2 := (unhide f0).S
      refine bodyPost_ret (v := .agg #[.int .i64 0, .int .i64 0, .int .i64 0, .int .i64 (aw + cw), .int .i64 (mx ah ch)]) (by simp [results, Tryd.results53, go_sem, f2]) rfl ⟨rfl, ?_⟩
      iterate 5 refine Below.setCell ?_ (by exact Nat.le_refl _) _
      exact unhide HBZ
     ·have hx : XW = mx aw cw := by simpa using unhide HXW
      have hy : XH = ah + ch := by simpa using unhide HXH
      clear HXW HXH
      subst hx hy
      go_wp2_with fail
      have f2 := (unhide f1).S
      refine bodyPost_ret (v := .agg #[.int .i64 0, .int .i64 0, .int .i64 0, .int .i64 (mx aw cw), .int .i64 (ah + ch)]) (by simp [results, Tryd.results53, go_sem, f2]) rfl ⟨rfl, ?_⟩
      iterate 5 refine Below.setCell ?_ (by exact Nat.le_refl _) _
      exact unhide HBZ
    ·skip
     have hb : Below v45.heap.size v45 (v45.alloc (.cells #[.int .i64 0, .int .i64 0, .int .i64 0, .int .i64 0, .int .i64 0] 32)) := (Below.refl _ _).alloc (Nat.le_refl _) _
     have Q50 := hide ((unhide Q45).below hb)
     have P50 := hide (BF.new v45 #[.int .i64 0, .int .i64 0, .int .i64 0, .int .i64 0, .int .i64 0] 32)
     have B50 := hide ((unhide B45).trans (hb.mono (unhide B45).size))
     have S50 : (v45.alloc (.cells #[.int .i64 0, .int .i64 0, .int .i64 0, .int .i64 0, .int .i64 0] 32)).cell? ⟨b, 3, none⟩ = some (.pointer (some ⟨bl, 0, none⟩)) ∧ (v45.alloc (.cells #[.int .i64 0, .int .i64 0, .int .i64 0, .int .i64 0, .int .i64 0] 32)).cell? ⟨b, 4, none⟩ = some (.pointer (some ⟨br, 0, none⟩)) := ⟨((unhide B50).cell (p := ⟨b, 3, none⟩) hblt).trans c3, ((unhide B50).cell (p := ⟨b, 4, none⟩) hblt).trans c4⟩
     have pg50 : w1.heap.size ≤ v45.heap.size := (unhide B45).size
     have ne50 : v45.heap.size ≠ q44 := Nat.ne_of_gt (unhide Q45).lt
     clear hb
     go_simp
     refine hK.out _ _ ?_ (fun hHeld50 => ?_)
     ·exact S50
     clear hK K
     try simp only [Act.put, qqA, qqB, qqC]
     generalize v45.alloc (Obj.cells #[.int .i64 0, .int .i64 0, .int .i64 0, .int .i64 0, .int .i64 0] 32) = v50 at P50 B50 S50 hHeld50 Q50 ⊢
     generalize v45.heap.size = p50 at P50 pg50 ne50 ⊢
     refine wpAnyH_ready (rs := [9]) (by kernel_rfl) (by simp) ?_
     refine AllReadyH.cons (o := oNeeI3) rfl (fun K hK => ?_) (AllReadyH.nil)
     go_simp
     refine (unhide HJ br Rs _ ((unhide HTR).below (unhide B50)) (unhide HR1)).mono ?_
     rw [← unhide HE3, ← unhide HE4]
     rintro e v51 ⟨rfl, hb⟩
     have P51 := hide ((unhide P50).below hb)
     have Q51 := hide ((unhide Q50).below hb)
     have B51 := hide ((unhide B50).trans (hb.mono (unhide B50).size))
     have S51 : v51.cell? ⟨b, 3, none⟩ = some (.pointer (some ⟨bl, 0, none⟩)) ∧ v51.cell? ⟨b, 4, none⟩ = some (.pointer (some ⟨br, 0, none⟩)) := ⟨((unhide B51).cell (p := ⟨b, 3, none⟩) hblt).trans c3, ((unhide B51).cell (p := ⟨b, 4, none⟩) hblt).trans c4⟩
     clear hb
     go_wp2_with fail
     refine hK.out _ _ ?_ (fun hHeld51 => ?_)
     ·exact S51
     clear hK K
     try simp only [Act.put, qqA, qqB, qqC]
     refine wpAnyH_ready (rs := [12]) (by kernel_rfl) (by simp) ?_
     refine AllReadyH.cons (o := oNeeI4) rfl (fun K hK => ?_) (AllReadyH.nil)
     have f5 := (unhide P51).S
     have f6 := (unhide P51).F
     have P52 := hide (put5 (unhide P51) (.int .i64 0) (.int .i64 0) (.int .i64 0) (.int .i64 aw) (.int .i64 ah))
     have Q52 := hide ((((((unhide Q51).far ⟨p50, 0, none⟩ (.int .i64 0) ne50).far ⟨p50, 1, none⟩ (.int .i64 0) ne50).far ⟨p50, 2, none⟩ (.int .i64 0) ne50).far ⟨p50, 3, none⟩ (.int .i64 aw) ne50).far ⟨p50, 4, none⟩ (.int .i64 ah) ne50)
     have B52 := hide ((((((unhide B51).setCell (p := ⟨p50, 0, none⟩) pg50 (.int .i64 0)).setCell (p := ⟨p50, 1, none⟩) pg50 (.int .i64 0)).setCell (p := ⟨p50, 2, none⟩) pg50 (.int .i64 0)).setCell (p := ⟨p50, 3, none⟩) pg50 (.int .i64 aw)).setCell (p := ⟨p50, 4, none⟩) pg50 (.int .i64 ah))
     have S52 : (((((v51.setCell ⟨p50, 0, none⟩ (.int .i64 0)).setCell ⟨p50, 1, none⟩ (.int .i64 0)).setCell ⟨p50, 2, none⟩ (.int .i64 0)).setCell ⟨p50, 3, none⟩ (.int .i64 aw)).setCell ⟨p50, 4, none⟩ (.int .i64 ah)).cell? ⟨b, 3, none⟩ = some (.pointer (some ⟨bl, 0, none⟩)) ∧ (((((v51.setCell ⟨p50, 0, none⟩ (.int .i64 0)).setCell ⟨p50, 1, none⟩ (.int .i64 0)).setCell ⟨p50, 2, none⟩ (.int .i64 0)).setCell ⟨p50, 3, none⟩ (.int .i64 aw)).setCell ⟨p50, 4, none⟩ (.int .i64 ah)).cell? ⟨b, 4, none⟩ = some (.pointer (some ⟨br, 0, none⟩)) := ⟨((unhide B52).cell (p := ⟨b, 3, none⟩) hblt).trans c3, ((unhide B52).cell (p := ⟨b, 4, none⟩) hblt).trans c4⟩
     go_simp
     clear f5 f6
     refine hK.out _ _ ?_ (fun hHeld52 => ?_)
     ·exact S52
     clear hK K
     try simp only [Act.put, qqA, qqB, qqC]
     generalize (((((v51.setCell ⟨p50, 0, none⟩ (.int .i64 0)).setCell ⟨p50, 1, none⟩ (.int .i64 0)).setCell ⟨p50, 2, none⟩ (.int .i64 0)).setCell ⟨p50, 3, none⟩ (.int .i64 aw)).setCell ⟨p50, 4, none⟩ (.int .i64 ah)) = v52 at P52 Q52 B52 S52 hHeld52 ⊢
     refine wpAnyH_ready (rs := [13]) (by kernel_rfl) (by simp) ?_
     refine AllReadyH.cons (o := oNeeI5) rfl (fun K hK => ?_) (AllReadyH.nil)
     have f5 := (unhide Q52).S
     have f6 := (unhide Q52).F
     have Q53 := hide (put5 (unhide Q52) (.int .i64 0) (.int .i64 0) (.int .i64 0) (.int .i64 cw) (.int .i64 ch))
     have P53 := hide ((((((unhide P52).far ⟨q44, 0, none⟩ (.int .i64 0) (ne50).symm).far ⟨q44, 1, none⟩ (.int .i64 0) (ne50).symm).far ⟨q44, 2, none⟩ (.int .i64 0) (ne50).symm).far ⟨q44, 3, none⟩ (.int .i64 cw) (ne50).symm).far ⟨q44, 4, none⟩ (.int .i64 ch) (ne50).symm)
     have B53 := hide ((((((unhide B52).setCell (p := ⟨q44, 0, none⟩) qg44 (.int .i64 0)).setCell (p := ⟨q44, 1, none⟩) qg44 (.int .i64 0)).setCell (p := ⟨q44, 2, none⟩) qg44 (.int .i64 0)).setCell (p := ⟨q44, 3, none⟩) qg44 (.int .i64 cw)).setCell (p := ⟨q44, 4, none⟩) qg44 (.int .i64 ch))
     have S53 : (((((v52.setCell ⟨q44, 0, none⟩ (.int .i64 0)).setCell ⟨q44, 1, none⟩ (.int .i64 0)).setCell ⟨q44, 2, none⟩ (.int .i64 0)).setCell ⟨q44, 3, none⟩ (.int .i64 cw)).setCell ⟨q44, 4, none⟩ (.int .i64 ch)).cell? ⟨b, 3, none⟩ = some (.pointer (some ⟨bl, 0, none⟩)) ∧ (((((v52.setCell ⟨q44, 0, none⟩ (.int .i64 0)).setCell ⟨q44, 1, none⟩ (.int .i64 0)).setCell ⟨q44, 2, none⟩ (.int .i64 0)).setCell ⟨q44, 3, none⟩ (.int .i64 cw)).setCell ⟨q44, 4, none⟩ (.int .i64 ch)).cell? ⟨b, 4, none⟩ = some (.pointer (some ⟨br, 0, none⟩)) := ⟨((unhide B53).cell (p := ⟨b, 3, none⟩) hblt).trans c3, ((unhide B53).cell (p := ⟨b, 4, none⟩) hblt).trans c4⟩
     go_simp
     clear f5 f6
     refine hK.out _ _ ?_ (fun hHeld53 => ?_)
     ·exact S53
     clear hK K
     try simp only [Act.put, qqA, qqB, qqC]
     generalize (((((v52.setCell ⟨q44, 0, none⟩ (.int .i64 0)).setCell ⟨q44, 1, none⟩ (.int .i64 0)).setCell ⟨q44, 2, none⟩ (.int .i64 0)).setCell ⟨q44, 3, none⟩ (.int .i64 cw)).setCell ⟨q44, 4, none⟩ (.int .i64 ch)) = v53 at Q53 P53 B53 S53 hHeld53 ⊢
     refine wpAnyH_done (by kernel_rfl) ?_ _
     have cp := (unhide P53).S
     have cq := (unhide Q53).S
     have cb := (unhide HBF).below (unhide B53)
     have cr := (unhide BR).below (unhide B53)
     have cb1 : v53.cell? ⟨b, 1, none⟩ = some (.bool r) := cb.S 1
     have cr1 := cr.S
     have cr2 := cr.F
     have HBZ := hide ((unhide HB0).trans ((unhide B53).mono (unhide HB0).size))
     have f0 := hide (put5 cr (.int .i64 0) (.int .i64 0) (.int .i64 0) (.int .i64 (aw + cw)) (.int .i64 (mx ah ch)))
     have f1 := hide (put5 cr (.int .i64 0) (.int .i64 0) (.int .i64 0) (.int .i64 (mx aw cw)) (.int .i64 (ah + ch)))
     clear cb cr c3 c4
     cases r
     ·have hx : XW = aw + cw := by simpa using unhide HXW
      have hy : XH = mx ah ch := by simpa using unhide HXH
      clear HXW HXH
      subst hx hy
      go_wp2_with fail
      have f2 := (unhide f0).S
      refine bodyPost_ret (v := .agg #[.int .i64 0, .int .i64 0, .int .i64 0, .int .i64 (aw + cw), .int .i64 (mx ah ch)]) (by simp [results, Tryd.results53, go_sem, f2]) rfl ⟨rfl, ?_⟩
      iterate 5 refine Below.setCell ?_ (by exact Nat.le_refl _) _
      exact unhide HBZ
     ·have hx : XW = mx aw cw := by simpa using unhide HXW
      have hy : XH = ah + ch := by simpa using unhide HXH
      clear HXW HXH
      subst hx hy
      go_wp2_with fail
      have f2 := (unhide f1).S
      refine bodyPost_ret (v := .agg #[.int .i64 0, .int .i64 0, .int .i64 0, .int .i64 (mx aw cw), .int .i64 (ah + ch)]) (by simp [results, Tryd.results53, go_sem, f2]) rfl ⟨rfl, ?_⟩
      iterate 5 refine Below.setCell ?_ (by exact Nat.le_refl _) _
      exact unhide HBZ
   ·skip
    have hb : Below v44.heap.size v44 (v44.alloc (.cells #[.int .i64 0, .int .i64 0, .int .i64 0, .int .i64 0, .int .i64 0] 32)) := (Below.refl _ _).alloc (Nat.le_refl _) _
    have Q54 := hide ((unhide Q44).below hb)
    have P54 := hide (BF.new v44 #[.int .i64 0, .int .i64 0, .int .i64 0, .int .i64 0, .int .i64 0] 32)
    have B54 := hide ((unhide B44).trans (hb.mono (unhide B44).size))
    have S54 : (v44.alloc (.cells #[.int .i64 0, .int .i64 0, .int .i64 0, .int .i64 0, .int .i64 0] 32)).cell? ⟨b, 3, none⟩ = some (.pointer (some ⟨bl, 0, none⟩)) ∧ (v44.alloc (.cells #[.int .i64 0, .int .i64 0, .int .i64 0, .int .i64 0, .int .i64 0] 32)).cell? ⟨b, 4, none⟩ = some (.pointer (some ⟨br, 0, none⟩)) := ⟨((unhide B54).cell (p := ⟨b, 3, none⟩) hblt).trans c3, ((unhide B54).cell (p := ⟨b, 4, none⟩) hblt).trans c4⟩
    have pg54 : w1.heap.size ≤ v44.heap.size := (unhide B44).size
    have ne54 : v44.heap.size ≠ q44 := Nat.ne_of_gt (unhide Q44).lt
    clear hb
    go_simp
    refine hK.out _ _ ?_ (fun hHeld54 => ?_)
    ·exact S54
    clear hK K
    try simp only [Act.put, qqA, qqB, qqC]
    generalize v44.alloc (Obj.cells #[.int .i64 0, .int .i64 0, .int .i64 0, .int .i64 0, .int .i64 0] 32) = v54 at P54 B54 S54 hHeld54 Q54 ⊢
    generalize v44.heap.size = p54 at P54 pg54 ne54 ⊢
    refine wpAnyH_ready (rs := [4]) (by kernel_rfl) (by simp) ?_
    refine AllReadyH.cons (o := oNeeI0) rfl (fun K hK => ?_) (AllReadyH.nil)
    go_simp
    refine (unhide HI bl Ls _ ((unhide HTL).below (unhide B54)) (unhide HL1)).mono ?_
    rw [← unhide HE1, ← unhide HE2]
    rintro e v55 ⟨rfl, hb⟩
    have P55 := hide ((unhide P54).below hb)
    have Q55 := hide ((unhide Q54).below hb)
    have B55 := hide ((unhide B54).trans (hb.mono (unhide B54).size))
    have S55 : v55.cell? ⟨b, 3, none⟩ = some (.pointer (some ⟨bl, 0, none⟩)) ∧ v55.cell? ⟨b, 4, none⟩ = some (.pointer (some ⟨br, 0, none⟩)) := ⟨((unhide B55).cell (p := ⟨b, 3, none⟩) hblt).trans c3, ((unhide B55).cell (p := ⟨b, 4, none⟩) hblt).trans c4⟩
    clear hb
    go_wp2_with fail
    refine hK.out _ _ ?_ (fun hHeld55 => ?_)
    ·exact S55
    clear hK K
    try simp only [Act.put, qqA, qqB, qqC]
    refine wpAnyH_ready (rs := [9]) (by kernel_rfl) (by simp) ?_
    refine AllReadyH.cons (o := oNeeI3) rfl (fun K hK => ?_) (AllReadyH.nil)
    go_simp
    refine (unhide HJ br Rs _ ((unhide HTR).below (unhide B55)) (unhide HR1)).mono ?_
    rw [← unhide HE3, ← unhide HE4]
    rintro e v56 ⟨rfl, hb⟩
    have P56 := hide ((unhide P55).below hb)
    have Q56 := hide ((unhide Q55).below hb)
    have B56 := hide ((unhide B55).trans (hb.mono (unhide B55).size))
    have S56 : v56.cell? ⟨b, 3, none⟩ = some (.pointer (some ⟨bl, 0, none⟩)) ∧ v56.cell? ⟨b, 4, none⟩ = some (.pointer (some ⟨br, 0, none⟩)) := ⟨((unhide B56).cell (p := ⟨b, 3, none⟩) hblt).trans c3, ((unhide B56).cell (p := ⟨b, 4, none⟩) hblt).trans c4⟩
    clear hb
    go_wp2_with fail
    refine hK.out _ _ ?_ (fun hHeld56 => ?_)
    ·exact S56
    clear hK K
    try simp only [Act.put, qqA, qqB, qqC]
    refine wpAnyH_ready (rs := [12]) (by kernel_rfl) (by simp) ?_
    refine AllReadyH.cons (o := oNeeI4) rfl (fun K hK => ?_) (AllReadyH.nil)
    have f5 := (unhide P56).S
    have f6 := (unhide P56).F
    have P57 := hide (put5 (unhide P56) (.int .i64 0) (.int .i64 0) (.int .i64 0) (.int .i64 aw) (.int .i64 ah))
    have Q57 := hide ((((((unhide Q56).far ⟨p54, 0, none⟩ (.int .i64 0) ne54).far ⟨p54, 1, none⟩ (.int .i64 0) ne54).far ⟨p54, 2, none⟩ (.int .i64 0) ne54).far ⟨p54, 3, none⟩ (.int .i64 aw) ne54).far ⟨p54, 4, none⟩ (.int .i64 ah) ne54)
    have B57 := hide ((((((unhide B56).setCell (p := ⟨p54, 0, none⟩) pg54 (.int .i64 0)).setCell (p := ⟨p54, 1, none⟩) pg54 (.int .i64 0)).setCell (p := ⟨p54, 2, none⟩) pg54 (.int .i64 0)).setCell (p := ⟨p54, 3, none⟩) pg54 (.int .i64 aw)).setCell (p := ⟨p54, 4, none⟩) pg54 (.int .i64 ah))
    have S57 : (((((v56.setCell ⟨p54, 0, none⟩ (.int .i64 0)).setCell ⟨p54, 1, none⟩ (.int .i64 0)).setCell ⟨p54, 2, none⟩ (.int .i64 0)).setCell ⟨p54, 3, none⟩ (.int .i64 aw)).setCell ⟨p54, 4, none⟩ (.int .i64 ah)).cell? ⟨b, 3, none⟩ = some (.pointer (some ⟨bl, 0, none⟩)) ∧ (((((v56.setCell ⟨p54, 0, none⟩ (.int .i64 0)).setCell ⟨p54, 1, none⟩ (.int .i64 0)).setCell ⟨p54, 2, none⟩ (.int .i64 0)).setCell ⟨p54, 3, none⟩ (.int .i64 aw)).setCell ⟨p54, 4, none⟩ (.int .i64 ah)).cell? ⟨b, 4, none⟩ = some (.pointer (some ⟨br, 0, none⟩)) := ⟨((unhide B57).cell (p := ⟨b, 3, none⟩) hblt).trans c3, ((unhide B57).cell (p := ⟨b, 4, none⟩) hblt).trans c4⟩
    go_simp
    clear f5 f6
    refine hK.out _ _ ?_ (fun hHeld57 => ?_)
    ·exact S57
    clear hK K
    try simp only [Act.put, qqA, qqB, qqC]
    generalize (((((v56.setCell ⟨p54, 0, none⟩ (.int .i64 0)).setCell ⟨p54, 1, none⟩ (.int .i64 0)).setCell ⟨p54, 2, none⟩ (.int .i64 0)).setCell ⟨p54, 3, none⟩ (.int .i64 aw)).setCell ⟨p54, 4, none⟩ (.int .i64 ah)) = v57 at P57 Q57 B57 S57 hHeld57 ⊢
    refine wpAnyH_ready (rs := [13]) (by kernel_rfl) (by simp) ?_
    refine AllReadyH.cons (o := oNeeI5) rfl (fun K hK => ?_) (AllReadyH.nil)
    have f5 := (unhide Q57).S
    have f6 := (unhide Q57).F
    have Q58 := hide (put5 (unhide Q57) (.int .i64 0) (.int .i64 0) (.int .i64 0) (.int .i64 cw) (.int .i64 ch))
    have P58 := hide ((((((unhide P57).far ⟨q44, 0, none⟩ (.int .i64 0) (ne54).symm).far ⟨q44, 1, none⟩ (.int .i64 0) (ne54).symm).far ⟨q44, 2, none⟩ (.int .i64 0) (ne54).symm).far ⟨q44, 3, none⟩ (.int .i64 cw) (ne54).symm).far ⟨q44, 4, none⟩ (.int .i64 ch) (ne54).symm)
    have B58 := hide ((((((unhide B57).setCell (p := ⟨q44, 0, none⟩) qg44 (.int .i64 0)).setCell (p := ⟨q44, 1, none⟩) qg44 (.int .i64 0)).setCell (p := ⟨q44, 2, none⟩) qg44 (.int .i64 0)).setCell (p := ⟨q44, 3, none⟩) qg44 (.int .i64 cw)).setCell (p := ⟨q44, 4, none⟩) qg44 (.int .i64 ch))
    have S58 : (((((v57.setCell ⟨q44, 0, none⟩ (.int .i64 0)).setCell ⟨q44, 1, none⟩ (.int .i64 0)).setCell ⟨q44, 2, none⟩ (.int .i64 0)).setCell ⟨q44, 3, none⟩ (.int .i64 cw)).setCell ⟨q44, 4, none⟩ (.int .i64 ch)).cell? ⟨b, 3, none⟩ = some (.pointer (some ⟨bl, 0, none⟩)) ∧ (((((v57.setCell ⟨q44, 0, none⟩ (.int .i64 0)).setCell ⟨q44, 1, none⟩ (.int .i64 0)).setCell ⟨q44, 2, none⟩ (.int .i64 0)).setCell ⟨q44, 3, none⟩ (.int .i64 cw)).setCell ⟨q44, 4, none⟩ (.int .i64 ch)).cell? ⟨b, 4, none⟩ = some (.pointer (some ⟨br, 0, none⟩)) := ⟨((unhide B58).cell (p := ⟨b, 3, none⟩) hblt).trans c3, ((unhide B58).cell (p := ⟨b, 4, none⟩) hblt).trans c4⟩
    go_simp
    clear f5 f6
    refine hK.out _ _ ?_ (fun hHeld58 => ?_)
    ·exact S58
    clear hK K
    try simp only [Act.put, qqA, qqB, qqC]
    generalize (((((v57.setCell ⟨q44, 0, none⟩ (.int .i64 0)).setCell ⟨q44, 1, none⟩ (.int .i64 0)).setCell ⟨q44, 2, none⟩ (.int .i64 0)).setCell ⟨q44, 3, none⟩ (.int .i64 cw)).setCell ⟨q44, 4, none⟩ (.int .i64 ch)) = v58 at Q58 P58 B58 S58 hHeld58 ⊢
    refine wpAnyH_done (by kernel_rfl) ?_ _
    have cp := (unhide P58).S
    have cq := (unhide Q58).S
    have cb := (unhide HBF).below (unhide B58)
    have cr := (unhide BR).below (unhide B58)
    have cb1 : v58.cell? ⟨b, 1, none⟩ = some (.bool r) := cb.S 1
    have cr1 := cr.S
    have cr2 := cr.F
    have HBZ := hide ((unhide HB0).trans ((unhide B58).mono (unhide HB0).size))
    have f0 := hide (put5 cr (.int .i64 0) (.int .i64 0) (.int .i64 0) (.int .i64 (aw + cw)) (.int .i64 (mx ah ch)))
    have f1 := hide (put5 cr (.int .i64 0) (.int .i64 0) (.int .i64 0) (.int .i64 (mx aw cw)) (.int .i64 (ah + ch)))
    clear cb cr c3 c4
    cases r
    ·have hx : XW = aw + cw := by simpa using unhide HXW
     have hy : XH = mx ah ch := by simpa using unhide HXH
     clear HXW HXH
     subst hx hy
     go_wp2_with fail
     have f2 := (unhide f0).S
     refine bodyPost_ret (v := .agg #[.int .i64 0, .int .i64 0, .int .i64 0, .int .i64 (aw + cw), .int .i64 (mx ah ch)]) (by simp [results, Tryd.results53, go_sem, f2]) rfl ⟨rfl, ?_⟩
     iterate 5 refine Below.setCell ?_ (by exact Nat.le_refl _) _
     exact unhide HBZ
    ·have hx : XW = mx aw cw := by simpa using unhide HXW
     have hy : XH = ah + ch := by simpa using unhide HXH
     clear HXW HXH
     subst hx hy
     go_wp2_with fail
     have f2 := (unhide f1).S
     refine bodyPost_ret (v := .agg #[.int .i64 0, .int .i64 0, .int .i64 0, .int .i64 (mx aw cw), .int .i64 (ah + ch)]) (by simp [results, Tryd.results53, go_sem, f2]) rfl ⟨rfl, ?_⟩
     iterate 5 refine Below.setCell ?_ (by exact Nat.le_refl _) _
     exact unhide HBZ
end Go.Proofs.YtgnecacoehedkaaDoor
