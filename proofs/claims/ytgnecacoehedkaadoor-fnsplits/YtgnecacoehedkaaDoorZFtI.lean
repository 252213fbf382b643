/- (*tree).fit: a tree fitted to a place. -/
import Derived.Test.YtgnecacoehedkaaDoorZNeeI
namespace Go.Proofs.YtgnecacoehedkaaDoor
open Go.ChangeShapes Go.WideShapes Go.ChangeAt Go.RowKit
attribute [local go_sem ↓] run_mn
attribute [local go_sem ↓] run_mx
def sdI (r : Bool) (h w : Int) : Int := if r then h else w
/-- The places of a split's two parts when it is fitted, by letters. -/
theorem fit_places {r : Bool} {s pn x y W H : Int} {l t : Tr} (hx : 0 ≤ x) (hy : 0 ≤ y) (h1 : x + W ≤ 1000) (h2 : y + H ≤ 1000) (hw : (Tr.split r s l t).lw ≤ W) (hh : (Tr.split r s l t).lh ≤ H) (S : Int) (hS : S = ftS s (sdI r l.lh l.lw) (sdI r H W - sdI r t.lh t.lw)) :
  ∃ xl yl Wl Hl xr yr Wr Hr : Int, cutL r S pn x y W H = #[.int .i64 pn, .int .i64 xl, .int .i64 yl, .int .i64 Wl, .int .i64 Hl] ∧ cutR r S pn x y W H = #[.int .i64 pn, .int .i64 xr, .int .i64 yr, .int .i64 Wr, .int .i64 Hr] ∧
   (0 ≤ xl ∧ 0 ≤ yl ∧ xl + Wl ≤ 1000 ∧ yl + Hl ≤ 1000 ∧ l.lw ≤ Wl ∧ l.lh ≤ Hl) ∧ (0 ≤ xr ∧ 0 ≤ yr ∧ xr + Wr ≤ 1000 ∧ yr + Hr ≤ 1000 ∧ t.lw ≤ Wr ∧ t.lh ≤ Hr) ∧ (2 ≤ S ∧ S ≤ 1000) ∧ (2 ≤ W ∧ 2 ≤ H) ∧ (Tr.split r s l t).fit W H = .split r S (l.fit Wl Hl) (t.fit Wr Hr) := by
 have b1 := least_bd l
 have b2 := least_bd t
 cases r
 ·simp only [Tr.lw, Tr.lh, sdI, Bool.false_eq_true, if_false] at hw hh hS
  have hm := mx_le.1 hh
  have := ftS_bd (s := s) (a := l.lw) (z := W - t.lw) (by omega)
  rw [← hS] at this
  refine ⟨x, y, S, H, x + S, y, W - S, H, rfl, rfl, by omega, by omega, by omega, by omega, ?_⟩
  rw [Tr.fit, hS]; rfl
 ·simp only [Tr.lw, Tr.lh, sdI, if_true] at hw hh hS
  have hm := mx_le.1 hw
  have := ftS_bd (s := s) (a := l.lh) (z := H - t.lh) (by omega)
  rw [← hS] at this
  refine ⟨x, y, W, S, x, y + S, W, H - S, rfl, rfl, by omega, by omega, by omega, by omega, ?_⟩
  rw [Tr.fit, hS]; rfl
set_option maxHeartbeats 4000000 in
set_option maxRecDepth 100000 in
theorem ifit : ∀ (t : Tr) (b : Nat) (bs : List Nat) (pn x y W H : Int) (w : World), TreeAt iBx w t b bs → bs.Nodup → 0 ≤ x → 0 ≤ y → x + W ≤ 1000 → y + H ≤ 1000 → t.lw ≤ W → t.lh ≤ H → t.cnt ≤ 1000 →
  Calls Tryd.prog 26 #[.pointer (some ⟨b, 0, none⟩), .agg #[.int .i64 pn, .int .i64 x, .int .i64 y, .int .i64 W, .int .i64 H]] w fun e w' => e = .returned (.tuple #[]) ∧ TreeAt iBx w' (t.fit W H) b bs ∧ Turned w w' bs := by
 intro t
 induction t using Tr.ind with
 | pane n =>
  intro b bs pn x y W H w ht hnd hx hy h1 h2 hw hh hcnt
  obtain ⟨rfl, hbf⟩ := ht
  have HBF := hide (hbf.alloc (.cells #[.int .i64 pn, .int .i64 x, .int .i64 y, .int .i64 W, .int .i64 H] 32))
  have HB0 := hide (Go.Joins.below_alloc1 w (.cells #[.int .i64 pn, .int .i64 x, .int .i64 y, .int .i64 W, .int .i64 H] 32))
  clear hbf
  go_enter Tryd.func26, Tryd.ntmps26
  go_wp2_with fail
  refine (ipane_pane b n _ (unhide HBF)).mono ?_
  rintro e w1 ⟨rfl, hw1⟩
  rw [← hw1] at HBF HB0
  clear hw1
  go_wp2_with fail
  exact bodyPost_ret (v := .tuple #[]) (by simp [results, Tryd.results26, go_sem]) rfl ⟨rfl, ⟨rfl, unhide HBF⟩, Turned.of_below (unhide HB0) _⟩
 | split r s l t ihl ihr =>
  intro b bs pn x y W H w ht hnd hx hy h1 h2 hw hh hcnt
  obtain ⟨bl, br, Ls, Rs, rfl, hbf, htl, htr⟩ := ht
  obtain ⟨S, hS⟩ : ∃ S, S = ftS s (sdI r l.lh l.lw) (sdI r H W - sdI r t.lh t.lw) := ⟨_, rfl⟩
  obtain ⟨xl, yl, Wl, Hl, xr, yr, Wr, Hr, eL, eR, bL, bR, bS, bWH, eF⟩ := fit_places (pn := pn) hx hy h1 h2 hw hh S hS
  rw [eF]
  have HBs := hide htl.lt
  have HRs := hide htr.lt
  rw [List.nodup_cons, List.mem_append, List.nodup_append] at hnd
  obtain ⟨nb, nl, nr, nlr⟩ := hnd
  have NBL : Hid (b ∉ Ls) := fun h => nb (.inl h)
  have NBR : Hid (b ∉ Rs) := fun h => nb (.inr h)
  have NL := hide nl
  have NR := hide nr
  have NLR : Hid (∀ a ∈ Ls, ∀ c ∈ Rs, a ≠ c → False → False) := fun _ _ _ _ _ h => h
  clear NLR
  have NLR : Hid (∀ k ∈ Ls, ∀ c ∈ Rs, k = c → False) := fun k hk c hc e => nlr k hk c hc e
  have HB0 := hide (Go.Joins.below_alloc1 w (.cells #[.int .i64 pn, .int .i64 x, .int .i64 y, .int .i64 W, .int .i64 H] 32))
  have HBF := hide (hbf.alloc (.cells #[.int .i64 pn, .int .i64 x, .int .i64 y, .int .i64 W, .int .i64 H] 32))
  have HTL := hide (htl.alloc (.cells #[.int .i64 pn, .int .i64 x, .int .i64 y, .int .i64 W, .int .i64 H] 32))
  have HTR := hide (htr.alloc (.cells #[.int .i64 pn, .int .i64 x, .int .i64 y, .int .i64 W, .int .i64 H] 32))
  have BA := hide (BF.new w #[.int .i64 pn, .int .i64 x, .int .i64 y, .int .i64 W, .int .i64 H] 32)
  have HI := hide ihl
  have HJ := hide ihr
  simp only [Tr.cnt] at hcnt
  have HL1 : Hid (l.cnt ≤ 1000) := by show _ ≤ _; omega
  have HR1 : Hid (t.cnt ≤ 1000) := by show _ ≤ _; omega
  have bl1 := least_bd l
  have bl2 := least_bd t
  obtain ⟨aw, g1⟩ : ∃ x, x = l.lw := ⟨_, rfl⟩
  obtain ⟨ah, g2⟩ : ∃ x, x = l.lh := ⟨_, rfl⟩
  obtain ⟨cw, g3⟩ : ∃ x, x = t.lw := ⟨_, rfl⟩
  obtain ⟨ch, g4⟩ : ∃ x, x = t.lh := ⟨_, rfl⟩
  have HE1 := hide g1
  have HE2 := hide g2
  have HE3 := hide g3
  have HE4 := hide g4
  obtain ⟨LA, hLA⟩ : ∃ x, x = if r then ah else aw := ⟨_, rfl⟩
  obtain ⟨SD, hSD⟩ : ∃ x, x = if r then H else W := ⟨_, rfl⟩
  obtain ⟨RB, hRB⟩ : ∃ x, x = if r then ch else cw := ⟨_, rfl⟩
  have hS2 : mn (mx s LA) (SD - RB) = S := by rw [hS, hLA, hSD, hRB, g1, g2, g3, g4]; rfl
  have ew : IntKind.i64.wrap (SD - RB) = SD - RB := by
   refine wrapi _ ?_ ?_ <;> rw [hSD, hRB] <;> cases r <;> simp only [Bool.false_eq_true, if_false, if_true] <;> omega
  have HLA := hide hLA
  have HSD := hide hSD
  have HRB := hide hRB
  have HEL := hide eL
  have HER := hide eR
  have hblt := hbf.lt
  have hxW : x ≤ 1000 ∧ y ≤ 1000 ∧ W ≤ 1000 ∧ H ≤ 1000 := by omega
  obtain ⟨bL0, bL1, bL2, bL3, bL4, bL5⟩ := bL
  obtain ⟨bR0, bR1, bR2, bR3, bR4, bR5⟩ := bR
  obtain ⟨bS0, bS1⟩ := bS
  obtain ⟨bW, bH⟩ := bWH
  clear hbf htl htr ihl ihr hcnt bl1 bl2 g1 g2 g3 g4 hLA hSD hRB hS eL eR eF nb nl nr nlr hw hh
  go_enter Tryd.func26, Tryd.ntmps26
  go_wp2_with fail
  refine (ipane_split b r s bl br _ (unhide HBF)).mono ?_
  rintro e w1 ⟨rfl, hw⟩
  rw [← hw] at HB0 HBF HTL HTR BA
  clear hw
  have k1 : w1.cell? ⟨b, 1, none⟩ = some (.bool r) ∧ w1.cell? ⟨b, 3, none⟩ = some (.pointer (some ⟨bl, 0, none⟩)) ∧ w1.cell? ⟨b, 4, none⟩ = some (.pointer (some ⟨br, 0, none⟩)) ∧ ∀ o, w1.cell? ⟨w.heap.size, o, none⟩ = (#[.int .i64 pn, .int .i64 x, .int .i64 y, .int .i64 W, .int .i64 H] : Array Value)[o]? := ⟨(unhide HBF).S 1, (unhide HBF).S 3, (unhide HBF).S 4, (unhide BA).S⟩
  go_wp2_with fail
  refine wp_region_held_drew (S := fun w' => w'.cell? ⟨b, 1, none⟩ = some (.bool r) ∧ w'.cell? ⟨b, 3, none⟩ = some (.pointer (some ⟨bl, 0, none⟩)) ∧ w'.cell? ⟨b, 4, none⟩ = some (.pointer (some ⟨br, 0, none⟩)) ∧ ∀ o, w'.cell? ⟨w.heap.size, o, none⟩ = (#[.int .i64 pn, .int .i64 x, .int .i64 y, .int .i64 W, .int .i64 H] : Array Value)[o]?) (by kernel_rfl) k1 (fun hHeld => ?_)
  refine wtv 0 (oi := { dst := some 10, op := .move (.tmp 0), type := 45, pos := "l05_layout.go:271", after := #[], guard := none }) ?_
  refine wtv 1 (oi := { dst := some 11, op := .nilCheck (.tmp 10), type := 0, pos := "l05_layout.go:271", after := #[{ on := 0, ground := .data }], guard := none }) ?_
  refine wtv 2 (oi := { dst := some 12, op := .fieldAddr 58 (.tmp 11) 3, type := 0, pos := "l05_layout.go:271", after := #[{ on := 1, ground := .data }], guard := none }) ?_
  refine wtv 3 (oi := { dst := some 13, op := .load 45 (.tmp 12), type := 45, pos := "l05_layout.go:271", after := #[{ on := 2, ground := .data }], guard := none }) ?_
  refine wtv 5 (oi := { dst := some 15, op := .move (.tmp 0), type := 45, pos := "l05_layout.go:271", after := #[], guard := none }) ?_
  refine wtv 6 (oi := { dst := some 16, op := .nilCheck (.tmp 15), type := 0, pos := "l05_layout.go:271", after := #[{ on := 5, ground := .data }], guard := none }) ?_
  refine wtv 7 (oi := { dst := some 17, op := .fieldAddr 58 (.tmp 16) 1, type := 0, pos := "l05_layout.go:271", after := #[{ on := 6, ground := .data }], guard := none }) ?_
  refine wtv 8 (oi := { dst := some 18, op := .load 4 (.tmp 17), type := 4, pos := "l05_layout.go:271", after := #[{ on := 7, ground := .data }], guard := none }) ?_
  refine wpAnyH_ready (rs := [4]) (by kernel_rfl) (by simp) ?_
  refine AllReadyH.cons (o := { dst := some 14, op := .call { callee := .value (.func 53), args := #[.tmp 13], argTypes := #[45] }, type := 32, pos := "l05_layout.go:271", after := #[{ on := 3, ground := .data }], guard := none }) rfl (fun K hK => ?_) AllReadyH.nil
  go_simp
  refine (ineeds l bl Ls _ (unhide HTL).drew (unhide HL1)).mono ?_
  rintro e w2 ⟨rfl, hb⟩
  rw [← unhide HE1, ← unhide HE2]
  have F2 := hide ((unhide HBF).drew.below hb)
  have L2 := hide ((unhide HTL).drew.below hb)
  have R2 := hide ((unhide HTR).drew.below hb)
  have A2 := hide ((unhide BA).drew.below hb)
  have B2 := hide ((unhide HB0).trans ((below_undrew hb).mono (unhide HB0).size))
  have k2 : w2.cell? ⟨b, 1, none⟩ = some (.bool r) ∧ w2.cell? ⟨b, 3, none⟩ = some (.pointer (some ⟨bl, 0, none⟩)) ∧ w2.cell? ⟨b, 4, none⟩ = some (.pointer (some ⟨br, 0, none⟩)) ∧ ∀ o, w2.cell? ⟨w.heap.size, o, none⟩ = (#[.int .i64 pn, .int .i64 x, .int .i64 y, .int .i64 W, .int .i64 H] : Array Value)[o]? := ⟨(unhide F2).S 1, (unhide F2).S 3, (unhide F2).S 4, (unhide A2).S⟩
  clear hb
  go_wp2_with fail
  refine hK.out _ _ ?_ (fun hHeld42 => ?_)
  ·exact k2
  clear hK K
  try simp only [Act.put, qqA, qqB, qqC]
  refine wpAnyH_ready (rs := [9]) (by kernel_rfl) (by simp) ?_
  refine AllReadyH.cons (o := { dst := some 19, op := .call { callee := .value (.func 43), args := #[.tmp 14, .tmp 18], argTypes := #[32, 4] }, type := 3, pos := "l05_layout.go:271", after := #[{ on := 4, ground := .data }, { on := 8, ground := .data }, { on := 4, ground := .chain }], guard := none }) rfl (fun K hK => ?_) AllReadyH.nil
  go_simp
  refine (iside 0 0 0 aw ah r _).mono ?_
  rintro e w3 ⟨rfl, hb⟩
  rw [← unhide HLA]
  have F3 := hide ((unhide F2).below hb)
  have L3 := hide ((unhide L2).below hb)
  have R3 := hide ((unhide R2).below hb)
  have A3 := hide ((unhide A2).below hb)
  have B3 := hide ((unhide B2).trans ((hb).mono (unhide B2).size))
  have k3 : w3.cell? ⟨b, 1, none⟩ = some (.bool r) ∧ w3.cell? ⟨b, 3, none⟩ = some (.pointer (some ⟨bl, 0, none⟩)) ∧ w3.cell? ⟨b, 4, none⟩ = some (.pointer (some ⟨br, 0, none⟩)) ∧ ∀ o, w3.cell? ⟨w.heap.size, o, none⟩ = (#[.int .i64 pn, .int .i64 x, .int .i64 y, .int .i64 W, .int .i64 H] : Array Value)[o]? := ⟨(unhide F3).S 1, (unhide F3).S 3, (unhide F3).S 4, (unhide A3).S⟩
  clear hb
  go_wp2_with fail
  refine hK.out _ _ ?_ (fun hHeld93 => ?_)
  ·exact k3
  clear hK K
  try simp only [Act.put, qqA, qqB, qqC]
  refine wtv 10 (oi := { dst := some 4, op := .assign (.tmp 19), type := 3, pos := "l05_layout.go:271", after := #[{ on := 9, ground := .data }, { on := 9, ground := .chain }, { on := 0, ground := .phase }, { on := 1, ground := .phase }, { on := 2, ground := .phase }, { on := 3, ground := .phase }, { on := 4, ground := .phase }, { on := 5, ground := .phase }, { on := 6, ground := .phase }, { on := 7, ground := .phase }, { on := 8, ground := .phase }, { on := 9, ground := .phase }], guard := none }) ?_
  refine wpAnyH_done (by kernel_rfl) ?_ _
  clear k1 k2
  go_wp2_with fail
  refine wp_region_held_drew (S := fun w' => w'.cell? ⟨b, 1, none⟩ = some (.bool r) ∧ w'.cell? ⟨b, 3, none⟩ = some (.pointer (some ⟨bl, 0, none⟩)) ∧ w'.cell? ⟨b, 4, none⟩ = some (.pointer (some ⟨br, 0, none⟩)) ∧ ∀ o, w'.cell? ⟨w.heap.size, o, none⟩ = (#[.int .i64 pn, .int .i64 x, .int .i64 y, .int .i64 W, .int .i64 H] : Array Value)[o]?) (by kernel_rfl) k3 (fun hHeld => ?_)
  refine wtv 0 (oi := { dst := some 20, op := .load 32 (.tmp 3), type := 32, pos := "l05_layout.go:272", after := #[], guard := none }) ?_
  refine wtv 1 (oi := { dst := some 21, op := .move (.tmp 0), type := 45, pos := "l05_layout.go:272", after := #[], guard := none }) ?_
  refine wtv 2 (oi := { dst := some 22, op := .nilCheck (.tmp 21), type := 0, pos := "l05_layout.go:272", after := #[{ on := 1, ground := .data }], guard := none }) ?_
  refine wtv 3 (oi := { dst := some 23, op := .fieldAddr 58 (.tmp 22) 1, type := 0, pos := "l05_layout.go:272", after := #[{ on := 2, ground := .data }], guard := none }) ?_
  refine wtv 4 (oi := { dst := some 24, op := .load 4 (.tmp 23), type := 4, pos := "l05_layout.go:272", after := #[{ on := 3, ground := .data }], guard := none }) ?_
  refine wtv 6 (oi := { dst := some 26, op := .move (.tmp 0), type := 45, pos := "l05_layout.go:272", after := #[], guard := none }) ?_
  refine wtv 7 (oi := { dst := some 27, op := .nilCheck (.tmp 26), type := 0, pos := "l05_layout.go:272", after := #[{ on := 6, ground := .data }], guard := none }) ?_
  refine wtv 8 (oi := { dst := some 28, op := .fieldAddr 58 (.tmp 27) 4, type := 0, pos := "l05_layout.go:272", after := #[{ on := 7, ground := .data }], guard := none }) ?_
  refine wtv 9 (oi := { dst := some 29, op := .load 45 (.tmp 28), type := 45, pos := "l05_layout.go:272", after := #[{ on := 8, ground := .data }], guard := none }) ?_
  refine wtv 11 (oi := { dst := some 31, op := .move (.tmp 0), type := 45, pos := "l05_layout.go:272", after := #[], guard := none }) ?_
  refine wtv 12 (oi := { dst := some 32, op := .nilCheck (.tmp 31), type := 0, pos := "l05_layout.go:272", after := #[{ on := 11, ground := .data }], guard := none }) ?_
  refine wtv 13 (oi := { dst := some 33, op := .fieldAddr 58 (.tmp 32) 1, type := 0, pos := "l05_layout.go:272", after := #[{ on := 12, ground := .data }], guard := none }) ?_
  refine wtv 14 (oi := { dst := some 34, op := .load 4 (.tmp 33), type := 4, pos := "l05_layout.go:272", after := #[{ on := 13, ground := .data }], guard := none }) ?_
  refine wpAnyH_ready (rs := [5]) (by kernel_rfl) (by simp) ?_
  refine AllReadyH.cons (o := { dst := some 25, op := .call { callee := .value (.func 43), args := #[.tmp 20, .tmp 24], argTypes := #[32, 4] }, type := 3, pos := "l05_layout.go:272", after := #[{ on := 0, ground := .data }, { on := 4, ground := .data }], guard := none }) rfl (fun K hK => ?_) AllReadyH.nil
  go_simp
  refine (iside pn x y W H r _).mono ?_
  rintro e w4 ⟨rfl, hb⟩
  rw [← unhide HSD]
  have F4 := hide ((unhide F3).drew.below hb)
  have L4 := hide ((unhide L3).drew.below hb)
  have R4 := hide ((unhide R3).drew.below hb)
  have A4 := hide ((unhide A3).drew.below hb)
  have B4 := hide ((unhide B3).trans ((below_undrew hb).mono (unhide B3).size))
  have k4 : w4.cell? ⟨b, 1, none⟩ = some (.bool r) ∧ w4.cell? ⟨b, 3, none⟩ = some (.pointer (some ⟨bl, 0, none⟩)) ∧ w4.cell? ⟨b, 4, none⟩ = some (.pointer (some ⟨br, 0, none⟩)) ∧ ∀ o, w4.cell? ⟨w.heap.size, o, none⟩ = (#[.int .i64 pn, .int .i64 x, .int .i64 y, .int .i64 W, .int .i64 H] : Array Value)[o]? := ⟨(unhide F4).S 1, (unhide F4).S 3, (unhide F4).S 4, (unhide A4).S⟩
  clear hb
  go_wp2_with fail
  refine hK.out _ _ ?_ (fun hHeld54 => ?_)
  ·exact k4
  clear hK K
  try simp only [Act.put, qqA, qqB, qqC]
  refine wpAnyH_ready (rs := [10]) (by kernel_rfl) (by simp) ?_
  refine AllReadyH.cons (o := { dst := some 30, op := .call { callee := .value (.func 53), args := #[.tmp 29], argTypes := #[45] }, type := 32, pos := "l05_layout.go:272", after := #[{ on := 9, ground := .data }, { on := 5, ground := .chain }], guard := none }) rfl (fun K hK => ?_) AllReadyH.nil
  go_simp
  refine (ineeds t br Rs _ (unhide R4) (unhide HR1)).mono ?_
  rintro e w5 ⟨rfl, hb⟩
  rw [← unhide HE3, ← unhide HE4]
  have F5 := hide ((unhide F4).below hb)
  have L5 := hide ((unhide L4).below hb)
  have R5 := hide ((unhide R4).below hb)
  have A5 := hide ((unhide A4).below hb)
  have B5 := hide ((unhide B4).trans ((hb).mono (unhide B4).size))
  have k5 : w5.cell? ⟨b, 1, none⟩ = some (.bool r) ∧ w5.cell? ⟨b, 3, none⟩ = some (.pointer (some ⟨bl, 0, none⟩)) ∧ w5.cell? ⟨b, 4, none⟩ = some (.pointer (some ⟨br, 0, none⟩)) ∧ ∀ o, w5.cell? ⟨w.heap.size, o, none⟩ = (#[.int .i64 pn, .int .i64 x, .int .i64 y, .int .i64 W, .int .i64 H] : Array Value)[o]? := ⟨(unhide F5).S 1, (unhide F5).S 3, (unhide F5).S 4, (unhide A5).S⟩
  clear hb
  go_wp2_with fail
  refine hK.out _ _ ?_ (fun hHeld105 => ?_)
  ·exact k5
  clear hK K
  try simp only [Act.put, qqA, qqB, qqC]
  refine wpAnyH_ready (rs := [15]) (by kernel_rfl) (by simp) ?_
  refine AllReadyH.cons (o := { dst := some 35, op := .call { callee := .value (.func 43), args := #[.tmp 30, .tmp 34], argTypes := #[32, 4] }, type := 3, pos := "l05_layout.go:272", after := #[{ on := 10, ground := .data }, { on := 14, ground := .data }, { on := 10, ground := .chain }], guard := none }) rfl (fun K hK => ?_) AllReadyH.nil
  go_simp
  refine (iside 0 0 0 cw ch r _).mono ?_
  rintro e w6 ⟨rfl, hb⟩
  rw [← unhide HRB]
  have F6 := hide ((unhide F5).below hb)
  have L6 := hide ((unhide L5).below hb)
  have R6 := hide ((unhide R5).below hb)
  have A6 := hide ((unhide A5).below hb)
  have B6 := hide ((unhide B5).trans ((hb).mono (unhide B5).size))
  have k6 : w6.cell? ⟨b, 1, none⟩ = some (.bool r) ∧ w6.cell? ⟨b, 3, none⟩ = some (.pointer (some ⟨bl, 0, none⟩)) ∧ w6.cell? ⟨b, 4, none⟩ = some (.pointer (some ⟨br, 0, none⟩)) ∧ ∀ o, w6.cell? ⟨w.heap.size, o, none⟩ = (#[.int .i64 pn, .int .i64 x, .int .i64 y, .int .i64 W, .int .i64 H] : Array Value)[o]? := ⟨(unhide F6).S 1, (unhide F6).S 3, (unhide F6).S 4, (unhide A6).S⟩
  clear hb
  go_wp2_with fail
  refine hK.out _ _ ?_ (fun hHeld156 => ?_)
  ·exact k6
  clear hK K
  try simp only [Act.put, qqA, qqB, qqC]
  refine wtv 16 (oi := { dst := some 36, op := .binOp .sub 3 (.tmp 25) (.tmp 35) 3, type := 3, pos := "l05_layout.go:272", after := #[{ on := 5, ground := .data }, { on := 15, ground := .data }], guard := none }) ?_
  refine wtv 17 (oi := { dst := some 5, op := .assign (.tmp 36), type := 3, pos := "l05_layout.go:272", after := #[{ on := 16, ground := .data }, { on := 15, ground := .chain }, { on := 0, ground := .phase }, { on := 1, ground := .phase }, { on := 2, ground := .phase }, { on := 3, ground := .phase }, { on := 4, ground := .phase }, { on := 5, ground := .phase }, { on := 6, ground := .phase }, { on := 7, ground := .phase }, { on := 8, ground := .phase }, { on := 9, ground := .phase }, { on := 10, ground := .phase }, { on := 11, ground := .phase }, { on := 12, ground := .phase }, { on := 13, ground := .phase }, { on := 14, ground := .phase }, { on := 15, ground := .phase }, { on := 16, ground := .phase }], guard := none }) ?_
  refine wpAnyH_done (by kernel_rfl) ?_ _
  clear k3 k4 k5
  have c2 : w6.cell? ⟨b, 2, none⟩ = some (.int .i64 s) := (unhide F6).S 2
  have c2f := (unhide F6).F 2
  have G7 := hide ((unhide F6).set 2 (by simp [iBx]) (.int .i64 S))
  have G7' : Hid (BF b (iBx.node r S bl br) (w6.setCell ⟨b, 2, none⟩ (.int .i64 S))) := by show BF _ _ _; have := unhide G7; simp only [iBx] at this ⊢; simpa using this
  have T7 : Hid (Turned w (w6.setCell ⟨b, 2, none⟩ (.int .i64 S)) (b :: (Ls ++ Rs))) := (Turned.of_below (unhide B6) _).trans (Turned.set (by simp))
  have TS : Hid (Turned w6 (w6.setCell ⟨b, 2, none⟩ (.int .i64 S)) [b]) := Turned.set (by simp)
  have TL7 := hide ((unhide L6).turned (unhide TS) (fun k hk h => by simp at h; exact unhide NBL (h ▸ hk)))
  have TR7 := hide ((unhide R6).turned (unhide TS) (fun k hk h => by simp at h; exact unhide NBR (h ▸ hk)))
  have hwb : ¬ w.heap.size = b := Nat.ne_of_gt hblt
  have AA7 := hide ((unhide A6).far ⟨b, 2, none⟩ (.int .i64 S) (fun h => hwb h.symm))
  have a7 := (unhide AA7).S
  have a6 := (unhide A6).S
  clear G7 k6
  go_wp2_with fail
  generalize w6.setCell ⟨b, 2, none⟩ (.int .i64 S) = wc at G7' T7 TL7 TR7 AA7 a7 ⊢
  clear c2 c2f a6 a7 F6 L6 R6 A6 B6 TS
  refine (icut b bl br r S pn x y W H (by omega) (by omega) (by omega) (by omega) (by omega) _ (unhide G7')).mono ?_
  rintro e w7 ⟨rfl, hb7⟩
  rw [unhide HEL, unhide HER]
  have F7 := hide ((unhide G7').below hb7)
  have L7 := hide ((unhide TL7).below hb7)
  have R7 := hide ((unhide TR7).below hb7)
  have T7b := hide ((unhide T7).trans (Turned.of_below hb7 _))
  clear hb7 G7' TL7 TR7 T7 AA7
  have f7 := (unhide F7).S
  have F8 := hide (((unhide F7).alloc (.cells #[.int .i64 pn, .int .i64 xl, .int .i64 yl, .int .i64 Wl, .int .i64 Hl] 32)).alloc (.cells #[.int .i64 pn, .int .i64 xr, .int .i64 yr, .int .i64 Wr, .int .i64 Hr] 32))
  have L8 := hide (((unhide L7).alloc (.cells #[.int .i64 pn, .int .i64 xl, .int .i64 yl, .int .i64 Wl, .int .i64 Hl] 32)).alloc (.cells #[.int .i64 pn, .int .i64 xr, .int .i64 yr, .int .i64 Wr, .int .i64 Hr] 32))
  have R8 := hide (((unhide R7).alloc (.cells #[.int .i64 pn, .int .i64 xl, .int .i64 yl, .int .i64 Wl, .int .i64 Hl] 32)).alloc (.cells #[.int .i64 pn, .int .i64 xr, .int .i64 yr, .int .i64 Wr, .int .i64 Hr] 32))
  have PL := hide ((BF.new w7 #[.int .i64 pn, .int .i64 xl, .int .i64 yl, .int .i64 Wl, .int .i64 Hl] 32).alloc (.cells #[.int .i64 pn, .int .i64 xr, .int .i64 yr, .int .i64 Wr, .int .i64 Hr] 32))
  have PR := hide (BF.new (w7.alloc (.cells #[.int .i64 pn, .int .i64 xl, .int .i64 yl, .int .i64 Wl, .int .i64 Hl] 32)) #[.int .i64 pn, .int .i64 xr, .int .i64 yr, .int .i64 Wr, .int .i64 Hr] 32)
  rw [show (w7.alloc (.cells #[.int .i64 pn, .int .i64 xl, .int .i64 yl, .int .i64 Wl, .int .i64 Hl] 32)).heap.size = w7.heap.size + 1 from by simp] at PR
  have T8 := hide ((unhide T7b).trans (Turned.of_below (Go.Joins.below_alloc2 w7 (.cells #[.int .i64 pn, .int .i64 xl, .int .i64 yl, .int .i64 Wl, .int .i64 Hl] 32) (.cells #[.int .i64 pn, .int .i64 xr, .int .i64 yr, .int .i64 Wr, .int .i64 Hr] 32)) _))
  have HZ7 : Hid (w.heap.size ≤ w7.heap.size) := (unhide T7b).size
  clear F7 L7 R7 T7b
  go_wp2_with fail
  generalize (w7.alloc (Obj.cells #[.int .i64 pn, .int .i64 xl, .int .i64 yl, .int .i64 Wl, .int .i64 Hl] 32)).alloc (Obj.cells #[.int .i64 pn, .int .i64 xr, .int .i64 yr, .int .i64 Wr, .int .i64 Hr] 32) = w8 at F8 L8 R8 PL PR T8 ⊢
  have k8 : w8.cell? ⟨b, 3, none⟩ = some (.pointer (some ⟨bl, 0, none⟩)) ∧ w8.cell? ⟨b, 4, none⟩ = some (.pointer (some ⟨br, 0, none⟩)) ∧ (∀ o, w8.cell? ⟨w7.heap.size, o, none⟩ = (#[.int .i64 pn, .int .i64 xl, .int .i64 yl, .int .i64 Wl, .int .i64 Hl] : Array Value)[o]?) ∧ (∀ o, w8.cell? ⟨w7.heap.size + 1, o, none⟩ = (#[.int .i64 pn, .int .i64 xr, .int .i64 yr, .int .i64 Wr, .int .i64 Hr] : Array Value)[o]?) := ⟨(unhide F8).S 3, (unhide F8).S 4, (unhide PL).S, (unhide PR).S⟩
  have HLL := HBs
  have HRR := HRs
  clear f7
  refine wp_region_held_drew (S := fun w' => w'.cell? ⟨b, 3, none⟩ = some (.pointer (some ⟨bl, 0, none⟩)) ∧ w'.cell? ⟨b, 4, none⟩ = some (.pointer (some ⟨br, 0, none⟩)) ∧ (∀ o, w'.cell? ⟨w7.heap.size, o, none⟩ = (#[.int .i64 pn, .int .i64 xl, .int .i64 yl, .int .i64 Wl, .int .i64 Hl] : Array Value)[o]?) ∧ (∀ o, w'.cell? ⟨w7.heap.size + 1, o, none⟩ = (#[.int .i64 pn, .int .i64 xr, .int .i64 yr, .int .i64 Wr, .int .i64 Hr] : Array Value)[o]?)) (by kernel_rfl) k8 (fun hHeld => ?_)
  refine wtv 0 (oi := { dst := some 54, op := .move (.tmp 0), type := 45, pos := "l05_layout.go:275", after := #[], guard := none }) ?_
  refine wtv 1 (oi := { dst := some 55, op := .nilCheck (.tmp 54), type := 0, pos := "l05_layout.go:275", after := #[{ on := 0, ground := .data }], guard := none }) ?_
  refine wtv 2 (oi := { dst := some 56, op := .fieldAddr 58 (.tmp 55) 3, type := 0, pos := "l05_layout.go:275", after := #[{ on := 1, ground := .data }], guard := none }) ?_
  refine wtv 3 (oi := { dst := some 57, op := .load 45 (.tmp 56), type := 45, pos := "l05_layout.go:275", after := #[{ on := 2, ground := .data }], guard := none }) ?_
  refine wtv 4 (oi := { dst := some 58, op := .load 32 (.tmp 6), type := 32, pos := "l05_layout.go:275", after := #[], guard := none }) ?_
  refine wpAnyH_ready (rs := [5]) (by kernel_rfl) (by simp) ?_
  refine AllReadyH.cons (o := { dst := some 59, op := .call { callee := .value (.func 26), args := #[.tmp 57, .tmp 58], argTypes := #[45, 32] }, type := 0, pos := "l05_layout.go:275", after := #[{ on := 3, ground := .data }, { on := 4, ground := .data }], guard := none }) rfl (fun K hK => ?_) AllReadyH.nil
  go_simp
  refine (unhide HI bl Ls pn xl yl Wl Hl _ (unhide L8).drew (unhide NL) bL0 bL1 bL2 bL3 bL4 bL5 (unhide HL1)).mono ?_
  rintro e w9 ⟨rfl, ht9, hd9'⟩
  have hd9 : Turned w8 w9 Ls := ⟨hd9'.os, hd9'.tape, hd9'.output, hd9'.size, hd9'.block⟩
  have F9 := hide ((unhide F8).turned hd9 (unhide NBL))
  have P9 := hide ((unhide PL).turned hd9 (fun h => Nat.lt_irrefl _ (Nat.lt_of_le_of_lt (unhide HZ7) ((unhide HLL) _ h))))
  have Q9 := hide ((unhide PR).turned hd9 (fun h => Nat.lt_irrefl _ (Nat.lt_trans (Nat.lt_of_le_of_lt (unhide HZ7) (Nat.lt_succ_self _)) ((unhide HLL) _ h))))
  have k9 : w9.cell? ⟨b, 3, none⟩ = some (.pointer (some ⟨bl, 0, none⟩)) ∧ w9.cell? ⟨b, 4, none⟩ = some (.pointer (some ⟨br, 0, none⟩)) ∧ (∀ o, w9.cell? ⟨w7.heap.size, o, none⟩ = (#[.int .i64 pn, .int .i64 xl, .int .i64 yl, .int .i64 Wl, .int .i64 Hl] : Array Value)[o]?) ∧ (∀ o, w9.cell? ⟨w7.heap.size + 1, o, none⟩ = (#[.int .i64 pn, .int .i64 xr, .int .i64 yr, .int .i64 Wr, .int .i64 Hr] : Array Value)[o]?) := ⟨(unhide F9).S 3, (unhide F9).S 4, (unhide P9).S, (unhide Q9).S⟩
  have L9 := hide ht9
  have R9 := hide ((unhide R8).turned hd9 (fun k hk h => unhide NLR k h k hk rfl))
  have T9 := hide ((unhide T8).trans (hd9.more (fun k hk => by simp [hk])))
  clear ht9 hd9' hd9
  go_wp2_with fail
  refine hK.out _ _ ?_ (fun hHeld5 => ?_)
  ·exact k9
  clear hK K
  try simp only [Act.put, qqA, qqB, qqC]
  refine wpAnyH_done (by kernel_rfl) ?_ _
  go_wp2_with fail
  refine wp_region_held_drew (S := fun w' => w'.cell? ⟨b, 3, none⟩ = some (.pointer (some ⟨bl, 0, none⟩)) ∧ w'.cell? ⟨b, 4, none⟩ = some (.pointer (some ⟨br, 0, none⟩)) ∧ (∀ o, w'.cell? ⟨w7.heap.size, o, none⟩ = (#[.int .i64 pn, .int .i64 xl, .int .i64 yl, .int .i64 Wl, .int .i64 Hl] : Array Value)[o]?) ∧ (∀ o, w'.cell? ⟨w7.heap.size + 1, o, none⟩ = (#[.int .i64 pn, .int .i64 xr, .int .i64 yr, .int .i64 Wr, .int .i64 Hr] : Array Value)[o]?)) (by kernel_rfl) k9 (fun hHeld => ?_)
  refine wtv 0 (oi := { dst := some 60, op := .move (.tmp 0), type := 45, pos := "l05_layout.go:276", after := #[], guard := none }) ?_
  refine wtv 1 (oi := { dst := some 61, op := .nilCheck (.tmp 60), type := 0, pos := "l05_layout.go:276", after := #[{ on := 0, ground := .data }], guard := none }) ?_
  refine wtv 2 (oi := { dst := some 62, op := .fieldAddr 58 (.tmp 61) 4, type := 0, pos := "l05_layout.go:276", after := #[{ on := 1, ground := .data }], guard := none }) ?_
  refine wtv 3 (oi := { dst := some 63, op := .load 45 (.tmp 62), type := 45, pos := "l05_layout.go:276", after := #[{ on := 2, ground := .data }], guard := none }) ?_
  refine wtv 4 (oi := { dst := some 64, op := .load 32 (.tmp 7), type := 32, pos := "l05_layout.go:276", after := #[], guard := none }) ?_
  refine wpAnyH_ready (rs := [5]) (by kernel_rfl) (by simp) ?_
  refine AllReadyH.cons (o := { dst := some 65, op := .call { callee := .value (.func 26), args := #[.tmp 63, .tmp 64], argTypes := #[45, 32] }, type := 0, pos := "l05_layout.go:276", after := #[{ on := 3, ground := .data }, { on := 4, ground := .data }], guard := none }) rfl (fun K hK => ?_) AllReadyH.nil
  go_simp
  refine (unhide HJ br Rs pn xr yr Wr Hr _ (unhide R9).drew (unhide NR) bR0 bR1 bR2 bR3 bR4 bR5 (unhide HR1)).mono ?_
  rintro e w10 ⟨rfl, ht10, hd10'⟩
  have hd10 : Turned w9 w10 Rs := ⟨hd10'.os, hd10'.tape, hd10'.output, hd10'.size, hd10'.block⟩
  have F10 := hide ((unhide F9).turned hd10 (unhide NBR))
  have P10 := hide ((unhide P9).turned hd10 (fun h => Nat.lt_irrefl _ (Nat.lt_of_le_of_lt (unhide HZ7) ((unhide HRR) _ h))))
  have Q10 := hide ((unhide Q9).turned hd10 (fun h => Nat.lt_irrefl _ (Nat.lt_trans (Nat.lt_of_le_of_lt (unhide HZ7) (Nat.lt_succ_self _)) ((unhide HRR) _ h))))
  have k10 : w10.cell? ⟨b, 3, none⟩ = some (.pointer (some ⟨bl, 0, none⟩)) ∧ w10.cell? ⟨b, 4, none⟩ = some (.pointer (some ⟨br, 0, none⟩)) ∧ (∀ o, w10.cell? ⟨w7.heap.size, o, none⟩ = (#[.int .i64 pn, .int .i64 xl, .int .i64 yl, .int .i64 Wl, .int .i64 Hl] : Array Value)[o]?) ∧ (∀ o, w10.cell? ⟨w7.heap.size + 1, o, none⟩ = (#[.int .i64 pn, .int .i64 xr, .int .i64 yr, .int .i64 Wr, .int .i64 Hr] : Array Value)[o]?) := ⟨(unhide F10).S 3, (unhide F10).S 4, (unhide P10).S, (unhide Q10).S⟩
  have R10 := hide ht10
  have L10 := hide ((unhide L9).turned hd10 (fun k hk h => unhide NLR k hk k h rfl))
  have T10 := hide ((unhide T9).trans (hd10.more (fun k hk => by simp [hk])))
  clear ht10 hd10' hd10
  go_wp2_with fail
  refine hK.out _ _ ?_ (fun hHeld5 => ?_)
  ·exact k10
  clear hK K
  try simp only [Act.put, qqA, qqB, qqC]
  refine wpAnyH_done (by kernel_rfl) ?_ _
  go_wp2_with fail
  go_end0
  exact ⟨rfl, ⟨bl, br, Ls, Rs, rfl, unhide F10, unhide L10, unhide R10⟩, unhide T10⟩
end Go.Proofs.YtgnecacoehedkaaDoor
