/- (*tree).areas, LayoutAreas: what the program answers. -/
import Derived.Test.YtgnecacoehedkaaDoorZG33
import Derived.Test.YtgnecacoehedkaaDoorZTofI
namespace Go.Proofs.YtgnecacoehedkaaDoor
open Go.ChangeShapes Go.WideShapes Go.ChangeAt Go.RowKit
/-- The places of a split's two parts, by letters, and the areas within them. -/
theorem cut_areas {r : Bool} {s pn x y W H : Int} {l t : Tr} (hx : 0 ≤ x) (hy : 0 ≤ y) (hW : 2 ≤ W) (hH : 2 ≤ H) (h1 : x + W ≤ 1000) (h2 : y + H ≤ 1000) (hf : (Tr.split r s l t).fits W H = true) :
  ∃ xl yl Wl Hl xr yr Wr Hr : Int, cutL r s pn x y W H = #[.int .i64 pn, .int .i64 xl, .int .i64 yl, .int .i64 Wl, .int .i64 Hl] ∧ cutR r s pn x y W H = #[.int .i64 pn, .int .i64 xr, .int .i64 yr, .int .i64 Wr, .int .i64 Hr] ∧
   (0 ≤ xl ∧ 0 ≤ yl ∧ 2 ≤ Wl ∧ 2 ≤ Hl ∧ xl + Wl ≤ 1000 ∧ yl + Hl ≤ 1000) ∧ (0 ≤ xr ∧ 0 ≤ yr ∧ 2 ≤ Wr ∧ 2 ≤ Hr ∧ xr + Wr ≤ 1000 ∧ yr + Hr ≤ 1000) ∧ l.fits Wl Hl = true ∧ t.fits Wr Hr = true ∧ (0 ≤ s ∧ s ≤ 1000) ∧ (Tr.split r s l t).areas x y W H = l.areas xl yl Wl Hl ++ t.areas xr yr Wr Hr := by
 rw [Tr.fits] at hf
 cases r
 ·simp only [Bool.false_eq_true, if_false, Bool.and_eq_true] at hf
  have f1 := fits_two _ _ _ hf.1
  have f2 := fits_two _ _ _ hf.2
  exact ⟨x, y, s, H, x + s, y, W - s, H, rfl, rfl, by omega, by omega, hf.1, hf.2, by omega, rfl⟩
 ·simp only [if_true, Bool.and_eq_true] at hf
  have f1 := fits_two _ _ _ hf.1
  have f2 := fits_two _ _ _ hf.2
  exact ⟨x, y, W, s, x, y + s, W, H - s, rfl, rfl, by omega, by omega, hf.1, hf.2, by omega, rfl⟩
set_option maxHeartbeats 2000000 in
set_option maxRecDepth 100000 in
theorem iareas : ∀ (t : Tr) (b : Nat) (bs : List Nat) (pn x y W H : Int) (w : World), TreeAt iBx w t b bs → 0 ≤ x → 0 ≤ y → 2 ≤ W → 2 ≤ H → x + W ≤ 1000 → y + H ≤ 1000 → t.fits W H = true → t.cnt ≤ 1000 →
  Calls Tryd.prog 24 #[.pointer (some ⟨b, 0, none⟩), .agg #[.int .i64 pn, .int .i64 x, .int .i64 y, .int .i64 W, .int .i64 H]] w fun e w' => ∃ a cap, e = .returned (.slice a (t.areas x y W H).length cap) ∧ w'.ownsRow w.heap.size 32 5 (.slice a (t.areas x y W H).length cap) (t.areas x y W H).length (cAr (t.areas x y W H)) ∧ Below w.heap.size w w' := by
 intro t
 obtain ⟨i0, hi, hz0, hz1, hz2⟩ := info_parts Tryd.infL32
 induction t using Tr.ind with
 | pane n =>
  intro b bs pn x y W H w ht hx hy hW hH h1 h2 hf hcnt
  obtain ⟨rfl, hbf⟩ := ht
  have HBF := hide (hbf.alloc (.cells #[.int .i64 pn, .int .i64 x, .int .i64 y, .int .i64 W, .int .i64 H] 32))
  have BA := hide (BF.new w #[.int .i64 pn, .int .i64 x, .int .i64 y, .int .i64 W, .int .i64 H] 32)
  have HB0 := hide (Go.Joins.below_alloc1 w (.cells #[.int .i64 pn, .int .i64 x, .int .i64 y, .int .i64 W, .int .i64 H] 32))
  have hblt := hbf.lt
  clear hbf hf
  go_enter Tryd.func24, Tryd.ntmps24
  go_wp2_with fail
  refine (ipane_pane b n _ (unhide HBF)).mono ?_
  rintro e w1 ⟨rfl, hw⟩
  rw [← hw] at HBF BA HB0
  clear hw
  have c0 := (unhide HBF).S 0
  simp only [iBx] at c0
  have a1 := (unhide BA).S
  have a2 := (unhide BA).F
  have hne : ¬ w.heap.size = b := Nat.ne_of_gt hblt
  go_wp2_with fail
  go_ret
  have hz1 : w.heap.size ≤ w1.heap.size := (unhide HB0).size
  refine ⟨_, _, rfl, ?_, ?_⟩
  ·have o := World.ownsRow_lit (e := 32) (base := w.heap.size) (size := 5) (w1.setCell ⟨w.heap.size, 0, none⟩ (.int .i64 n)) #[.int .i64 n, .int .i64 x, .int .i64 y, .int .i64 W, .int .i64 H] 1 (by simpa using hz1) (by decide) rfl
   simp at o
   exact o
  ·exact ((unhide HB0).setCell (by exact Nat.le_refl _) _).alloc (by simpa using hz1) _
 | split r s l t ihl ihr =>
  intro b bs pn x y W H w ht hx hy hW hH h1 h2 hf hcnt
  obtain ⟨bl, br, Ls, Rs, rfl, hbf, htl, htr⟩ := ht
  have HB0 := hide (Go.Joins.below_alloc1 w (.cells #[.int .i64 pn, .int .i64 x, .int .i64 y, .int .i64 W, .int .i64 H] 32))
  have HBF := hide (hbf.alloc (.cells #[.int .i64 pn, .int .i64 x, .int .i64 y, .int .i64 W, .int .i64 H] 32))
  have HTL := hide (htl.alloc (.cells #[.int .i64 pn, .int .i64 x, .int .i64 y, .int .i64 W, .int .i64 H] 32))
  have HTR := hide (htr.alloc (.cells #[.int .i64 pn, .int .i64 x, .int .i64 y, .int .i64 W, .int .i64 H] 32))
  have BA := hide (BF.new w #[.int .i64 pn, .int .i64 x, .int .i64 y, .int .i64 W, .int .i64 H] 32)
  have HI := hide ihl
  have HJ := hide ihr
  obtain ⟨xl, yl, Wl, Hl, xr, yr, Wr, Hr, eL, eR, bL, bR, hfl, hfr, hs, ear⟩ := cut_areas (pn := pn) hx hy hW hH h1 h2 hf
  simp only [Tr.cnt] at hcnt
  have HL1 : Hid (l.cnt ≤ 1000) := by show _ ≤ _; omega
  have HR1 : Hid (t.cnt ≤ 1000) := by show _ ≤ _; omega
  obtain ⟨A1, hA1⟩ : ∃ A1, A1 = l.areas xl yl Wl Hl := ⟨_, rfl⟩
  obtain ⟨A2, hA2⟩ : ∃ A2, A2 = t.areas xr yr Wr Hr := ⟨_, rfl⟩
  rw [← hA1, ← hA2] at ear
  obtain ⟨n1, hn1⟩ : ∃ n1, n1 = A1.length := ⟨_, rfl⟩
  obtain ⟨n2, hn2⟩ : ∃ n2, n2 = A2.length := ⟨_, rfl⟩
  have b1 : 0 < n1 ∧ n1 ≤ 1000 := by rw [hn1, hA1, areas_len]; have := panes_pos l; have := panes_len l; omega
  have b2 : 0 < n2 ∧ n2 ≤ 1000 := by rw [hn2, hA2, areas_len]; have := panes_pos t; have := panes_len t; omega
  have HA1 := hide hA1
  have HA2 := hide hA2
  have HN1 := hide hn1
  have HN2 := hide hn2
  have HNA2 : Hid (n2 = A2.length) := hn2
  have HEAR := hide ear
  have HEL := hide eL
  have HER := hide eR
  clear hbf htl htr ihl ihr hf eL eR ear hA1 hA2 hn1 hn2 hcnt
  rw [unhide HEAR]
  go_enter Tryd.func24, Tryd.ntmps24
  go_wp2_with fail
  refine (ipane_split b r s bl br _ (unhide HBF)).mono ?_
  rintro e w1 ⟨rfl, hw⟩
  rw [← hw] at HB0 HBF HTL HTR BA
  clear hw
  have a1 := (unhide BA).S
  go_wp2_with fail
  refine (icut b bl br r s pn x y W H hs (by omega) (by omega) (by omega) (by omega) _ (unhide HBF)).mono ?_
  rintro e w3 ⟨rfl, hb3⟩
  rw [unhide HEL, unhide HER]
  have F3 := hide ((unhide HBF).below hb3)
  have TL3 := hide ((unhide HTL).below hb3)
  have TR3 := hide ((unhide HTR).below hb3)
  have HB3 := hide ((unhide HB0).trans (hb3.mono (unhide HB0).size))
  clear hb3 a1
  have F4 := hide (((unhide F3).alloc (.cells #[.int .i64 pn, .int .i64 xl, .int .i64 yl, .int .i64 Wl, .int .i64 Hl] 32)).alloc (.cells #[.int .i64 pn, .int .i64 xr, .int .i64 yr, .int .i64 Wr, .int .i64 Hr] 32))
  have TL4 := hide (((unhide TL3).alloc (.cells #[.int .i64 pn, .int .i64 xl, .int .i64 yl, .int .i64 Wl, .int .i64 Hl] 32)).alloc (.cells #[.int .i64 pn, .int .i64 xr, .int .i64 yr, .int .i64 Wr, .int .i64 Hr] 32))
  have TR4 := hide (((unhide TR3).alloc (.cells #[.int .i64 pn, .int .i64 xl, .int .i64 yl, .int .i64 Wl, .int .i64 Hl] 32)).alloc (.cells #[.int .i64 pn, .int .i64 xr, .int .i64 yr, .int .i64 Wr, .int .i64 Hr] 32))
  have PL := hide ((BF.new w3 #[.int .i64 pn, .int .i64 xl, .int .i64 yl, .int .i64 Wl, .int .i64 Hl] 32).alloc (.cells #[.int .i64 pn, .int .i64 xr, .int .i64 yr, .int .i64 Wr, .int .i64 Hr] 32))
  have PR := hide (BF.new (w3.alloc (.cells #[.int .i64 pn, .int .i64 xl, .int .i64 yl, .int .i64 Wl, .int .i64 Hl] 32)) #[.int .i64 pn, .int .i64 xr, .int .i64 yr, .int .i64 Wr, .int .i64 Hr] 32)
  rw [show (w3.alloc (.cells #[.int .i64 pn, .int .i64 xl, .int .i64 yl, .int .i64 Wl, .int .i64 Hl] 32)).heap.size = w3.heap.size + 1 from by simp] at PR
  have HB4 := hide ((unhide HB3).trans ((Go.Joins.below_alloc2 w3 (.cells #[.int .i64 pn, .int .i64 xl, .int .i64 yl, .int .i64 Wl, .int .i64 Hl] 32) (.cells #[.int .i64 pn, .int .i64 xr, .int .i64 yr, .int .i64 Wr, .int .i64 Hr] 32)).mono (unhide HB3).size))
  have HZ4 : Hid (w3.heap.size ≤ w3.heap.size) := Nat.le_refl _
  clear F3 TL3 TR3 HB3 HBF HTL HTR BA HB0 HZ4
  go_wp2_with fail
  generalize (w3.alloc (Obj.cells #[.int .i64 pn, .int .i64 xl, .int .i64 yl, .int .i64 Wl, .int .i64 Hl] 32)).alloc (Obj.cells #[.int .i64 pn, .int .i64 xr, .int .i64 yr, .int .i64 Wr, .int .i64 Hr] 32) = w4 at F4 TL4 TR4 PL PR HB4 ⊢
  have k4 : w4.cell? ⟨b, 3, none⟩ = some (.pointer (some ⟨bl, 0, none⟩)) ∧ w4.cell? ⟨b, 4, none⟩ = some (.pointer (some ⟨br, 0, none⟩)) ∧ (∀ o, w4.cell? ⟨w3.heap.size, o, none⟩ = (#[.int .i64 pn, .int .i64 xl, .int .i64 yl, .int .i64 Wl, .int .i64 Hl] : Array Value)[o]?) ∧ (∀ o, w4.cell? ⟨w3.heap.size + 1, o, none⟩ = (#[.int .i64 pn, .int .i64 xr, .int .i64 yr, .int .i64 Wr, .int .i64 Hr] : Array Value)[o]?) := ⟨(unhide F4).S 3, (unhide F4).S 4, (unhide PL).S, (unhide PR).S⟩
  obtain ⟨bL0, bL1, bL2, bL3, bL4, bL5⟩ := bL
  obtain ⟨bR0, bR1, bR2, bR3, bR4, bR5⟩ := bR
  refine wp_region_held_drew (S := fun w' => w'.cell? ⟨b, 3, none⟩ = some (.pointer (some ⟨bl, 0, none⟩)) ∧ w'.cell? ⟨b, 4, none⟩ = some (.pointer (some ⟨br, 0, none⟩)) ∧ (∀ o, w'.cell? ⟨w3.heap.size, o, none⟩ = (#[.int .i64 pn, .int .i64 xl, .int .i64 yl, .int .i64 Wl, .int .i64 Hl] : Array Value)[o]?) ∧ (∀ o, w'.cell? ⟨w3.heap.size + 1, o, none⟩ = (#[.int .i64 pn, .int .i64 xr, .int .i64 yr, .int .i64 Wr, .int .i64 Hr] : Array Value)[o]?)) (by kernel_rfl) k4 (fun hHeld => ?_)
  refine wtv 0 (oi := { dst := some 22, op := .move (.tmp 0), type := 45, pos := "l05_layout.go:181", after := #[], guard := none }) ?_
  refine wtv 1 (oi := { dst := some 23, op := .nilCheck (.tmp 22), type := 0, pos := "l05_layout.go:181", after := #[{ on := 0, ground := .data }], guard := none }) ?_
  refine wtv 2 (oi := { dst := some 24, op := .fieldAddr 58 (.tmp 23) 3, type := 0, pos := "l05_layout.go:181", after := #[{ on := 1, ground := .data }], guard := none }) ?_
  refine wtv 3 (oi := { dst := some 25, op := .load 45 (.tmp 24), type := 45, pos := "l05_layout.go:181", after := #[{ on := 2, ground := .data }], guard := none }) ?_
  refine wtv 4 (oi := { dst := some 26, op := .load 32 (.tmp 5), type := 32, pos := "l05_layout.go:181", after := #[], guard := none }) ?_
  refine wtv 6 (oi := { dst := some 28, op := .move (.tmp 0), type := 45, pos := "l05_layout.go:181", after := #[], guard := none }) ?_
  refine wtv 7 (oi := { dst := some 29, op := .nilCheck (.tmp 28), type := 0, pos := "l05_layout.go:181", after := #[{ on := 6, ground := .data }], guard := none }) ?_
  refine wtv 8 (oi := { dst := some 30, op := .fieldAddr 58 (.tmp 29) 4, type := 0, pos := "l05_layout.go:181", after := #[{ on := 7, ground := .data }], guard := none }) ?_
  refine wtv 9 (oi := { dst := some 31, op := .load 45 (.tmp 30), type := 45, pos := "l05_layout.go:181", after := #[{ on := 8, ground := .data }], guard := none }) ?_
  refine wtv 10 (oi := { dst := some 32, op := .load 32 (.tmp 6), type := 32, pos := "l05_layout.go:181", after := #[], guard := none }) ?_
  refine wpAnyH_ready (rs := [5]) (by kernel_rfl) (by simp) ?_
  refine AllReadyH.cons (o := { dst := some 27, op := .call { callee := .value (.func 24), args := #[.tmp 25, .tmp 26], argTypes := #[45, 32] }, type := 28, pos := "l05_layout.go:181", after := #[{ on := 3, ground := .data }, { on := 4, ground := .data }], guard := none }) rfl (fun K hK => ?_) AllReadyH.nil
  go_simp
  refine (unhide HI bl Ls pn xl yl Wl Hl _ (unhide TL4).drew bL0 bL1 bL2 bL3 bL4 bL5 hfl (unhide HL1)).mono ?_
  rw [← unhide HA1, ← unhide HN1]
  rintro e w5 ⟨a5, cap5, rfl, ho5, hb5⟩
  obtain ⟨g5, rfl⟩ := own_at ho5 b1.1
  have F5 := hide ((unhide F4).drew.below hb5)
  have P5 := hide ((unhide PL).drew.below hb5)
  have Q5 := hide ((unhide PR).drew.below hb5)
  have k5 : w5.cell? ⟨b, 3, none⟩ = some (.pointer (some ⟨bl, 0, none⟩)) ∧ w5.cell? ⟨b, 4, none⟩ = some (.pointer (some ⟨br, 0, none⟩)) ∧ (∀ o, w5.cell? ⟨w3.heap.size, o, none⟩ = (#[.int .i64 pn, .int .i64 xl, .int .i64 yl, .int .i64 Wl, .int .i64 Hl] : Array Value)[o]?) ∧ (∀ o, w5.cell? ⟨w3.heap.size + 1, o, none⟩ = (#[.int .i64 pn, .int .i64 xr, .int .i64 yr, .int .i64 Wr, .int .i64 Hr] : Array Value)[o]?) := ⟨(unhide F5).S 3, (unhide F5).S 4, (unhide P5).S, (unhide Q5).S⟩
  have TR5 := hide ((unhide TR4).drew.below hb5)
  have HB5 := hide ((unhide HB4).trans ((below_undrew hb5).mono (unhide HB4).size))
  have HO5 := hide (show w5.ownsRow w4.heap.size 32 5 (.slice (some ⟨g5, 0, none⟩) n1 cap5) n1 (cAr A1) from ho5)
  have HZ5 : Hid (w4.heap.size ≤ w5.heap.size) := hb5.size
  clear hb5 ho5
  go_wp2_with fail
  refine hK.out _ _ ?_ (fun hHeld5 => ?_)
  ·exact k5
  clear hK K
  try simp only [Act.put, qqA, qqB, qqC]
  refine wpAnyH_ready (rs := [11]) (by kernel_rfl) (by simp) ?_
  refine AllReadyH.cons (o := { dst := some 33, op := .call { callee := .value (.func 24), args := #[.tmp 31, .tmp 32], argTypes := #[45, 32] }, type := 28, pos := "l05_layout.go:181", after := #[{ on := 9, ground := .data }, { on := 10, ground := .data }, { on := 5, ground := .chain }], guard := none }) rfl (fun K hK => ?_) AllReadyH.nil
  go_simp
  refine (unhide HJ br Rs pn xr yr Wr Hr _ (unhide TR5) bR0 bR1 bR2 bR3 bR4 bR5 hfr (unhide HR1)).mono ?_
  rw [← unhide HA2, ← unhide HN2]
  rintro e w6 ⟨a6, cap6, rfl, ho6, hb6⟩
  obtain ⟨g6, rfl⟩ := own_at ho6 b2.1
  have F6 := hide ((unhide F5).below hb6)
  have P6 := hide ((unhide P5).below hb6)
  have Q6 := hide ((unhide Q5).below hb6)
  have k6 : w6.cell? ⟨b, 3, none⟩ = some (.pointer (some ⟨bl, 0, none⟩)) ∧ w6.cell? ⟨b, 4, none⟩ = some (.pointer (some ⟨br, 0, none⟩)) ∧ (∀ o, w6.cell? ⟨w3.heap.size, o, none⟩ = (#[.int .i64 pn, .int .i64 xl, .int .i64 yl, .int .i64 Wl, .int .i64 Hl] : Array Value)[o]?) ∧ (∀ o, w6.cell? ⟨w3.heap.size + 1, o, none⟩ = (#[.int .i64 pn, .int .i64 xr, .int .i64 yr, .int .i64 Wr, .int .i64 Hr] : Array Value)[o]?) := ⟨(unhide F6).S 3, (unhide F6).S 4, (unhide P6).S, (unhide Q6).S⟩
  have HB6 := hide ((unhide HB5).trans (hb6.mono (unhide HB5).size))
  have HO56 := hide ((heldZ_of (unhide HO5)).below hb6 (Nat.le_refl _)).own
  have HNW := hide (fun j u (hu : (cAr A2)[j]? = some u) => World.ownsRow.cells ho6 rfl j u hu)
  have HZ6 : Hid (w4.heap.size ≤ w6.heap.size) := Nat.le_trans (unhide HZ5) hb6.size
  clear hb6 ho6
  go_wp2_with fail
  refine hK.out _ _ ?_ (fun hHeld11 => ?_)
  ·exact k6
  clear hK K
  try simp only [Act.put, qqA, qqB, qqC]
  refine wpAnyH_ready (rs := [12]) (by kernel_rfl) (by simp) ?_
  refine AllReadyH.cons (o := { dst := some 34, op := .call { callee := .builtin Go.Builtin.append, args := #[.tmp 27, .tmp 33], argTypes := #[28, 28] }, type := 28, pos := "l05_layout.go:181", after := #[{ on := 5, ground := .data }, { on := 11, ground := .data }, { on := 11, ground := .chain }], guard := none }) rfl (fun K hK => ?_) AllReadyH.nil
  refine step_append_lies _ rfl (.tmp 27) (.tmp 33) 28 rfl w4.heap.size 32 i0 (.agg #[.int .i64 0, .int .i64 0, .int .i64 0, .int .i64 0, .int .i64 0]) 5 40 Tryd.underlying28 hi hz0 hz1 hz2 rfl (by decide) (.slice (some ⟨g5, 0, none⟩) n1 cap5) n1 (cAr A1) rfl (unhide HO56) ⟨g6, 0, none⟩ n2 cap6 (cAr A2) rfl (by rw [cAr_len, ← unhide HNA2]) (unhide HNW) (cAr_one _) b2.1 (by unfold maxLen; omega) (by omega) (unhide HZ6) _ rfl ?_
  intro g7 c7 w7 hown7 hgrow7 hat7 hlt7
  have k7 : w7.cell? ⟨b, 3, none⟩ = some (.pointer (some ⟨bl, 0, none⟩)) ∧ w7.cell? ⟨b, 4, none⟩ = some (.pointer (some ⟨br, 0, none⟩)) ∧ (∀ o, w7.cell? ⟨w3.heap.size, o, none⟩ = (#[.int .i64 pn, .int .i64 xl, .int .i64 yl, .int .i64 Wl, .int .i64 Hl] : Array Value)[o]?) ∧ (∀ o, w7.cell? ⟨w3.heap.size + 1, o, none⟩ = (#[.int .i64 pn, .int .i64 xr, .int .i64 yr, .int .i64 Wr, .int .i64 Hr] : Array Value)[o]?) := by
   have gg : ∀ k o, k < w4.heap.size → w7.cell? ⟨k, o, none⟩ = w6.cell? ⟨k, o, none⟩ := fun k o hk => hgrow7.cell_far ⟨k, o, none⟩ (Nat.lt_of_lt_of_le hk (unhide HZ6)) (fun e => by have := (unhide HO56).lt k e.symm; omega)
   exact ⟨(gg b 3 (unhide F4).lt).trans k6.1, (gg b 4 (unhide F4).lt).trans k6.2.1, fun o => (gg w3.heap.size o (unhide PL).lt).trans (k6.2.2.1 o), fun o => (gg (w3.heap.size + 1) o (unhide PR).lt).trans (k6.2.2.2 o)⟩
  refine hK.out _ _ ?_ (fun hHeld12 => ?_)
  ·exact k7
  clear hK K
  try simp only [Act.put, qqA, qqB, qqC]
  refine wtv 13 (oi := { dst := some 4, op := .assign (.tmp 34), type := 28, pos := "l05_layout.go:181", after := #[{ on := 12, ground := .data }, { on := 12, ground := .chain }, { on := 0, ground := .phase }, { on := 1, ground := .phase }, { on := 2, ground := .phase }, { on := 3, ground := .phase }, { on := 4, ground := .phase }, { on := 5, ground := .phase }, { on := 6, ground := .phase }, { on := 7, ground := .phase }, { on := 8, ground := .phase }, { on := 9, ground := .phase }, { on := 10, ground := .phase }, { on := 11, ground := .phase }, { on := 12, ground := .phase }], guard := none }) ?_
  refine wpAnyH_done (by kernel_rfl) ?_ _
  rw [← cAr_app] at hown7
  have HG7 := hide ((unhide HB6).grown hgrow7 (unhide HB6).size (fun k hk => Nat.le_trans (unhide HB4).size ((unhide HO56).lt k hk).1))
  have HO7 := hide hown7
  clear hown7 hgrow7 hat7 hlt7 k4 k5 k6 k7
  go_wp2_with fail
  go_ret
  have e12 : (A1 ++ A2).length = n1 + n2 := by rw [unhide HN1, unhide HN2]; simp
  rw [e12]
  exact ⟨_, _, rfl, Go.Joins.ownsRow_le (unhide HO7) (unhide HB4).size, unhide HG7⟩
end Go.Proofs.YtgnecacoehedkaaDoor
