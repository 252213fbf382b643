/- LayoutText: what the program answers. -/
import Derived.Test.YtgnecacoehedkaaDoorZG44
import Derived.Test.YtgnecacoehedkaaDoorZTofI
import Derived.Test.YtgnecacoehedkaaDoorZG23
import Derived.Test.YtgnecacoehedkaaDoorZItoI
namespace Go.Proofs.YtgnecacoehedkaaDoor
open Go.ChangeShapes Go.WideShapes Go.ChangeAt Go.RowKit
set_option linter.unusedVariables false
set_option maxHeartbeats 2000000 in
set_option maxRecDepth 100000 in
theorem itext : ∀ (t : Tr) (b : Nat) (bs : List Nat) (w : World), TreeAt iBx w t b bs → t.small → t.cnt ≤ 1000 → PowIn w → 0 < w.heap.size →
  Calls Tryd.prog 27 #[.pointer (some ⟨b, 0, none⟩)] w fun e w' => e = .returned (.string t.txt) ∧ Below w.heap.size w w' := by
 intro t
 induction t using Tr.ind with
 | pane n =>
  intro b bs w ht hsm hcn hp hg
  obtain ⟨rfl, hbf⟩ := ht
  have HBF := hide hbf
  have HP := hide hp
  have HG := hide hg
  have c0 : w.cell? ⟨b, 0, none⟩ = some (.int .i64 n) := hbf.S 0
  
  obtain ⟨hn0, hn1⟩ : 0 ≤ n ∧ n ≤ 9999 := hsm
  have HT : Hid ((Tr.pane n).txt = digS n.toNat) := rfl
  rw [unhide HT]
  clear hbf hp hg
  go_enter Tryd.func27, Tryd.ntmps27
  go_wp2_with fail
  refine (ipane_pane b n _ (unhide HBF)).mono ?_
  rintro e w1 ⟨rfl, rfl⟩
  go_wp2_with fail
  refine (iitoa n hn0 hn1 _ (unhide HP) (unhide HG)).mono ?_
  rintro e w2 ⟨rfl, hb2⟩
  have HB2 := hide hb2
  clear hb2
  go_wp2_with fail
  go_ret
  exact ⟨rfl, unhide HB2⟩
 | split r s l t ihl ihr =>
  intro b bs w ht hsm hcn hp hg
  obtain ⟨bl, br, Ls, Rs, rfl, hbf, htl, htr⟩ := ht
  have HBF := hide hbf
  have HTL := hide htl
  have HTR := hide htr
  have hblt := hbf.lt
  have HP := hide hp
  have HG := hide hg
  obtain ⟨⟨hs0, hs1⟩, hsl, hsr⟩ := hsm
  have HSL := hide hsl
  have HSR := hide hsr
  have HI := hide ihl
  have HJ := hide ihr
  have c3 : w.cell? ⟨b, 3, none⟩ = some (.pointer (some ⟨bl, 0, none⟩)) := hbf.S 3
  have c4 : w.cell? ⟨b, 4, none⟩ = some (.pointer (some ⟨br, 0, none⟩)) := hbf.S 4
  have c2 : w.cell? ⟨b, 2, none⟩ = some (.int .i64 s) := hbf.S 2
  have c1 : w.cell? ⟨b, 1, none⟩ = some (.bool r) := hbf.S 1
  
  simp only [Tr.cnt] at hcn
  have HCL : Hid (l.cnt ≤ 1000) := by show _ ≤ _; omega
  have HCR : Hid (t.cnt ≤ 1000) := by show _ ≤ _; omega
  have z1 : l.txt.size ≤ 12000 := Nat.le_trans (txt_size l hsl) (by omega)
  have z2 : t.txt.size ≤ 12000 := Nat.le_trans (txt_size t hsr) (by omega)
  have z3 : (digS s.toNat).size ≤ 4 := digS_size s.toNat (by omega)
  have HT : Hid ((Tr.split r s l t).txt = (⟨#[40]⟩ ++ l.txt ++ bord r ++ digS s.toNat ++ bord r ++ t.txt) ++ ⟨#[41]⟩) := rfl
  rw [unhide HT]
  have HD := hide (fun w0 (hp : PowIn w0) (hg : 0 < w0.heap.size) => iitoa s hs0 hs1 w0 hp hg)
  have z4 : (bord r).size = 1 := by cases r <;> rfl
  generalize l.txt = TL at HI z1 ⊢
  generalize t.txt = TR at HJ z2 ⊢
  generalize digS s.toNat = TD at HD z3 ⊢
  obtain ⟨BR, hBR⟩ : ∃ BR, BR = bord r := ⟨_, rfl⟩
  rw [← hBR] at z4 ⊢
  obtain ⟨U1, hU1⟩ : ∃ U, U = (⟨#[40]⟩ : ByteArray) ++ TL := ⟨_, rfl⟩
  obtain ⟨U2, hU2⟩ : ∃ U, U = U1 ++ BR := ⟨_, rfl⟩
  obtain ⟨U3, hU3⟩ : ∃ U, U = U2 ++ TD := ⟨_, rfl⟩
  obtain ⟨U4, hU4⟩ : ∃ U, U = U3 ++ BR := ⟨_, rfl⟩
  obtain ⟨U5, hU5⟩ : ∃ U, U = U4 ++ TR := ⟨_, rfl⟩
  obtain ⟨U6, hU6⟩ : ∃ U, U = U5 ++ (⟨#[41]⟩ : ByteArray) := ⟨_, rfl⟩
  have y1 : U1.size = 1 + TL.size := by rw [hU1, ByteArray.size_append]; rfl
  have y2 : U2.size = U1.size + BR.size := by rw [hU2, ByteArray.size_append]
  have y3 : U3.size = U2.size + TD.size := by rw [hU3, ByteArray.size_append]
  have y4 : U4.size = U3.size + BR.size := by rw [hU4, ByteArray.size_append]
  have y5 : U5.size = U4.size + TR.size := by rw [hU5, ByteArray.size_append]
  have HSZ := hide (show TL.size ≤ 12000 ∧ TR.size ≤ 12000 ∧ TD.size ≤ 4 ∧ BR.size = 1 ∧ U1.size ≤ 90000 ∧ U2.size ≤ 90000 ∧ U3.size ≤ 90000 ∧ U4.size ≤ 90000 ∧ U5.size ≤ 90000 from by omega)
  rw [← hU1, ← hU2, ← hU3, ← hU4, ← hU5, ← hU6]
  have HU1 := hide hU1
  have HU2 := hide hU2
  have HU3 := hide hU3
  have HU4 := hide hU4
  have HU5 := hide hU5
  have HU6 := hide hU6
  clear y1 y2 y3 y4 y5 z1 z2 z3 z4 hU1 hU2 hU3 hU4 hU5 hU6 hcn
  clear hbf htl htr hsl hsr ihl ihr hp hg
  have hBR2 : BR = if r = true then ⟨#[45]⟩ else ⟨#[124]⟩ := hBR
  clear hBR
  cases r
  all_goals
   simp only [Bool.false_eq_true, if_false, if_true] at hBR2
   subst hBR2
   go_enter Tryd.func27, Tryd.ntmps27
   go_wp2_with fail
   refine (ipane_split b _ s bl br _ (unhide HBF)).mono ?_
   rintro e w1 ⟨rfl, hw⟩
   obtain rfl := hw.symm
   go_wp2_with fail
   have HB3 := hide (Below.refl w.heap.size w)
   have k3 : w.cell? ⟨b, 3, none⟩ = some (.pointer (some ⟨bl, 0, none⟩)) ∧ w.cell? ⟨b, 4, none⟩ = some (.pointer (some ⟨br, 0, none⟩)) ∧ w.cell? ⟨b, 2, none⟩ = some (.int .i64 s) := ⟨c3, c4, c2⟩
   refine wp_region_held_drew (S := fun w' => w'.cell? ⟨b, 3, none⟩ = some (.pointer (some ⟨bl, 0, none⟩)) ∧ w'.cell? ⟨b, 4, none⟩ = some (.pointer (some ⟨br, 0, none⟩)) ∧ w'.cell? ⟨b, 2, none⟩ = some (.int .i64 s)) (by kernel_rfl) k3 (fun hHeld => ?_)
   refine wtv 0 (oi := { dst := some 15, op := .move (.tmp 0), type := 45, pos := "l05_layout.go:338", after := #[], guard := none }) ?_
   refine wtv 1 (oi := { dst := some 16, op := .nilCheck (.tmp 15), type := 0, pos := "l05_layout.go:338", after := #[{ on := 0, ground := .data }], guard := none }) ?_
   refine wtv 2 (oi := { dst := some 17, op := .fieldAddr 58 (.tmp 16) 3, type := 0, pos := "l05_layout.go:338", after := #[{ on := 1, ground := .data }], guard := none }) ?_
   refine wtv 3 (oi := { dst := some 18, op := .load 45 (.tmp 17), type := 45, pos := "l05_layout.go:338", after := #[{ on := 2, ground := .data }], guard := none }) ?_
   refine wtv 6 (oi := { dst := some 21, op := .move (.tmp 3), type := 9, pos := "l05_layout.go:338", after := #[], guard := none }) ?_
   refine wtv 8 (oi := { dst := some 23, op := .move (.tmp 0), type := 45, pos := "l05_layout.go:338", after := #[], guard := none }) ?_
   refine wtv 9 (oi := { dst := some 24, op := .nilCheck (.tmp 23), type := 0, pos := "l05_layout.go:338", after := #[{ on := 8, ground := .data }], guard := none }) ?_
   refine wtv 10 (oi := { dst := some 25, op := .fieldAddr 58 (.tmp 24) 2, type := 0, pos := "l05_layout.go:338", after := #[{ on := 9, ground := .data }], guard := none }) ?_
   refine wtv 11 (oi := { dst := some 26, op := .load 3 (.tmp 25), type := 3, pos := "l05_layout.go:338", after := #[{ on := 10, ground := .data }], guard := none }) ?_
   refine wtv 14 (oi := { dst := some 29, op := .move (.tmp 3), type := 9, pos := "l05_layout.go:338", after := #[], guard := none }) ?_
   refine wtv 16 (oi := { dst := some 31, op := .move (.tmp 0), type := 45, pos := "l05_layout.go:338", after := #[], guard := none }) ?_
   refine wtv 17 (oi := { dst := some 32, op := .nilCheck (.tmp 31), type := 0, pos := "l05_layout.go:338", after := #[{ on := 16, ground := .data }], guard := none }) ?_
   refine wtv 18 (oi := { dst := some 33, op := .fieldAddr 58 (.tmp 32) 4, type := 0, pos := "l05_layout.go:338", after := #[{ on := 17, ground := .data }], guard := none }) ?_
   refine wtv 19 (oi := { dst := some 34, op := .load 45 (.tmp 33), type := 45, pos := "l05_layout.go:338", after := #[{ on := 18, ground := .data }], guard := none }) ?_
   have HB4 := hide (unhide HB3).drew
   generalize w.drew = w4 at HB4 hHeld ⊢
   refine wpAnyH_ready (rs := [4]) (by kernel_rfl) (by simp) ?_
   refine AllReadyH.cons (o := { dst := some 19, op := .call { callee := .value (.func 27), args := #[.tmp 18], argTypes := #[45] }, type := 9, pos := "l05_layout.go:338", after := #[{ on := 3, ground := .data }], guard := none }) rfl (fun K hK => ?_) AllReadyH.nil
   go_simp
   refine (unhide HI bl Ls _ ((unhide HTL).below (unhide HB4)) (unhide HSL) (unhide HCL) ((unhide HP).below (unhide HB4) (unhide HG)) (Nat.lt_of_lt_of_le (unhide HG) (unhide HB4).size)).mono ?_
   rintro e w5 ⟨rfl, hb5⟩
   have HB5 := hide ((unhide HB4).trans (hb5.mono (unhide HB4).size))
   have k5 : w5.cell? ⟨b, 3, none⟩ = some (.pointer (some ⟨bl, 0, none⟩)) ∧ w5.cell? ⟨b, 4, none⟩ = some (.pointer (some ⟨br, 0, none⟩)) ∧ w5.cell? ⟨b, 2, none⟩ = some (.int .i64 s) := ⟨(((unhide HB5).cell (p := ⟨b, 3, none⟩) hblt).trans c3), (((unhide HB5).cell (p := ⟨b, 4, none⟩) hblt).trans c4), (((unhide HB5).cell (p := ⟨b, 2, none⟩) hblt).trans c2)⟩
   clear hb5
   go_wp2_with fail
   refine hK.out _ _ ?_ (fun hHeld4 => ?_)
   ·exact k5
   clear hK K
   try simp only [Act.put, qqA, qqB, qqC]
   refine wpAnyH_take (i := 5) (oi := { dst := some 20, op := .binOp .add 9 (.const (.string { data := #[40] })) (.tmp 19) 9, type := 9, pos := "l05_layout.go:338", after := #[{ on := 4, ground := .data }], guard := none }) (v := .string U1) rfl (by kernel_rfl) (by kernel_rfl) (by kernel_rfl) (fun _ _ _ h => h) (Or.inl ⟨by rfl, ?_⟩) (by assumption) ?_
   ·(intro w' hSw; (try dsimp only at hSw); go_simp; rw [if_neg (by have := unhide HSZ; omega), unhide HU1])
   try simp only [Act.put, qqA, qqB, qqC]
   refine wpAnyH_take (i := 7) (oi := { dst := some 22, op := .binOp .add 9 (.tmp 20) (.tmp 21) 9, type := 9, pos := "l05_layout.go:338", after := #[{ on := 5, ground := .data }, { on := 6, ground := .data }], guard := none }) (v := .string U2) rfl (by kernel_rfl) (by kernel_rfl) (by kernel_rfl) (fun _ _ _ h => h) (Or.inl ⟨by rfl, ?_⟩) (by assumption) ?_
   ·(intro w' hSw; (try dsimp only at hSw); go_simp; rw [if_neg (by have := unhide HSZ; omega), unhide HU2])
   try simp only [Act.put, qqA, qqB, qqC]
   refine wpAnyH_ready (rs := [12]) (by kernel_rfl) (by simp) ?_
   refine AllReadyH.cons (o := { dst := some 27, op := .call { callee := .value (.func 54), args := #[.tmp 26], argTypes := #[3] }, type := 9, pos := "l05_layout.go:338", after := #[{ on := 11, ground := .data }, { on := 4, ground := .chain }], guard := none }) rfl (fun K hK => ?_) AllReadyH.nil
   go_simp
   refine (unhide HD _ ((unhide HP).below (unhide HB5) (unhide HG)) (Nat.lt_of_lt_of_le (unhide HG) (unhide HB5).size)).mono ?_
   rintro e w6 ⟨rfl, hb6⟩
   have HB6 := hide ((unhide HB5).trans (hb6.mono (unhide HB5).size))
   have k6 : w6.cell? ⟨b, 3, none⟩ = some (.pointer (some ⟨bl, 0, none⟩)) ∧ w6.cell? ⟨b, 4, none⟩ = some (.pointer (some ⟨br, 0, none⟩)) ∧ w6.cell? ⟨b, 2, none⟩ = some (.int .i64 s) := ⟨(((unhide HB6).cell (p := ⟨b, 3, none⟩) hblt).trans c3), (((unhide HB6).cell (p := ⟨b, 4, none⟩) hblt).trans c4), (((unhide HB6).cell (p := ⟨b, 2, none⟩) hblt).trans c2)⟩
   clear hb6
   go_wp2_with fail
   refine hK.out _ _ ?_ (fun hHeld12 => ?_)
   ·exact k6
   clear hK K
   try simp only [Act.put, qqA, qqB, qqC]
   refine wpAnyH_take (i := 13) (oi := { dst := some 28, op := .binOp .add 9 (.tmp 22) (.tmp 27) 9, type := 9, pos := "l05_layout.go:338", after := #[{ on := 7, ground := .data }, { on := 12, ground := .data }], guard := none }) (v := .string U3) rfl (by kernel_rfl) (by kernel_rfl) (by kernel_rfl) (fun _ _ _ h => h) (Or.inl ⟨by rfl, ?_⟩) (by assumption) ?_
   ·(intro w' hSw; (try dsimp only at hSw); go_simp; rw [if_neg (by have := unhide HSZ; omega), unhide HU3])
   try simp only [Act.put, qqA, qqB, qqC]
   refine wpAnyH_take (i := 15) (oi := { dst := some 30, op := .binOp .add 9 (.tmp 28) (.tmp 29) 9, type := 9, pos := "l05_layout.go:338", after := #[{ on := 13, ground := .data }, { on := 14, ground := .data }], guard := none }) (v := .string U4) rfl (by kernel_rfl) (by kernel_rfl) (by kernel_rfl) (fun _ _ _ h => h) (Or.inl ⟨by rfl, ?_⟩) (by assumption) ?_
   ·(intro w' hSw; (try dsimp only at hSw); go_simp; rw [if_neg (by have := unhide HSZ; omega), unhide HU4])
   try simp only [Act.put, qqA, qqB, qqC]
   refine wpAnyH_ready (rs := [20]) (by kernel_rfl) (by simp) ?_
   refine AllReadyH.cons (o := { dst := some 35, op := .call { callee := .value (.func 27), args := #[.tmp 34], argTypes := #[45] }, type := 9, pos := "l05_layout.go:338", after := #[{ on := 19, ground := .data }, { on := 12, ground := .chain }], guard := none }) rfl (fun K hK => ?_) AllReadyH.nil
   go_simp
   refine (unhide HJ br Rs _ ((unhide HTR).below (unhide HB6)) (unhide HSR) (unhide HCR) ((unhide HP).below (unhide HB6) (unhide HG)) (Nat.lt_of_lt_of_le (unhide HG) (unhide HB6).size)).mono ?_
   rintro e w7 ⟨rfl, hb7⟩
   have HB7 := hide ((unhide HB6).trans (hb7.mono (unhide HB6).size))
   have k7 : w7.cell? ⟨b, 3, none⟩ = some (.pointer (some ⟨bl, 0, none⟩)) ∧ w7.cell? ⟨b, 4, none⟩ = some (.pointer (some ⟨br, 0, none⟩)) ∧ w7.cell? ⟨b, 2, none⟩ = some (.int .i64 s) := ⟨(((unhide HB7).cell (p := ⟨b, 3, none⟩) hblt).trans c3), (((unhide HB7).cell (p := ⟨b, 4, none⟩) hblt).trans c4), (((unhide HB7).cell (p := ⟨b, 2, none⟩) hblt).trans c2)⟩
   clear hb7
   go_wp2_with fail
   refine hK.out _ _ ?_ (fun hHeld20 => ?_)
   ·exact k7
   clear hK K
   try simp only [Act.put, qqA, qqB, qqC]
   refine wpAnyH_take (i := 21) (oi := { dst := some 36, op := .binOp .add 9 (.tmp 30) (.tmp 35) 9, type := 9, pos := "l05_layout.go:338", after := #[{ on := 15, ground := .data }, { on := 20, ground := .data }], guard := none }) (v := .string U5) rfl (by kernel_rfl) (by kernel_rfl) (by kernel_rfl) (fun _ _ _ h => h) (Or.inl ⟨by rfl, ?_⟩) (by assumption) ?_
   ·(intro w' hSw; (try dsimp only at hSw); go_simp; rw [if_neg (by have := unhide HSZ; omega), unhide HU5])
   try simp only [Act.put, qqA, qqB, qqC]
   refine wpAnyH_take (i := 22) (oi := { dst := some 37, op := .binOp .add 9 (.tmp 36) (.const (.string { data := #[41] })) 9, type := 9, pos := "l05_layout.go:338", after := #[{ on := 21, ground := .data }], guard := none }) (v := .string U6) rfl (by kernel_rfl) (by kernel_rfl) (by kernel_rfl) (fun _ _ _ h => h) (Or.inl ⟨by rfl, ?_⟩) (by assumption) ?_
   ·(intro w' hSw; (try dsimp only at hSw); go_simp; rw [if_neg (by have := unhide HSZ; omega), unhide HU6])
   try simp only [Act.put, qqA, qqB, qqC]
   refine wtv 23 (oi := { dst := some 2, op := .assign (.tmp 37), type := 9, pos := "l05_layout.go:338", after := #[{ on := 22, ground := .data }, { on := 20, ground := .chain }, { on := 0, ground := .phase }, { on := 1, ground := .phase }, { on := 2, ground := .phase }, { on := 3, ground := .phase }, { on := 4, ground := .phase }, { on := 5, ground := .phase }, { on := 6, ground := .phase }, { on := 7, ground := .phase }, { on := 8, ground := .phase }, { on := 9, ground := .phase }, { on := 10, ground := .phase }, { on := 11, ground := .phase }, { on := 12, ground := .phase }, { on := 13, ground := .phase }, { on := 14, ground := .phase }, { on := 15, ground := .phase }, { on := 16, ground := .phase }, { on := 17, ground := .phase }, { on := 18, ground := .phase }, { on := 19, ground := .phase }, { on := 20, ground := .phase }, { on := 21, ground := .phase }, { on := 22, ground := .phase }], guard := none }) ?_
   refine wpAnyH_done (by kernel_rfl) ?_ _
   go_wp2_with fail
   go_ret
   exact ⟨rfl, unhide HB7⟩
end Go.Proofs.YtgnecacoehedkaaDoor
