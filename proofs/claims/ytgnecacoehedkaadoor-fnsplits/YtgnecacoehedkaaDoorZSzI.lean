/- (*tree).sizesOK: whether a tree's parts fit their places. -/
import Derived.Test.YtgnecacoehedkaaDoorZOfI
namespace Go.Proofs.YtgnecacoehedkaaDoor
open Go.ChangeShapes Go.WideShapes Go.ChangeAt Go.RowKit
abbrev oSzI0 : Oper := { dst := some 9, op := .move (.tmp 0), type := 45, pos := "l05_layout.go:124", after := #[], guard := none }
abbrev oSzI1 : Oper := { dst := some 10, op := .nilCheck (.tmp 9), type := 0, pos := "l05_layout.go:124", after := #[{ on := 0, ground := .data }], guard := none }
abbrev oSzI2 : Oper := { dst := some 11, op := .fieldAddr 58 (.tmp 10) 2, type := 0, pos := "l05_layout.go:124", after := #[{ on := 1, ground := .data }], guard := none }
abbrev oSzI3 : Oper := { dst := some 12, op := .load 3 (.tmp 11), type := 3, pos := "l05_layout.go:124", after := #[{ on := 2, ground := .data }], guard := none }
abbrev oSzI4 : Oper := { dst := some 13, op := .binOp .lss 3 (.tmp 12) (.const (.int .i64 2)) 3, type := 4, pos := "l05_layout.go:124", after := #[{ on := 3, ground := .data }], guard := none }
abbrev oSzI5 : Oper := { dst := some 14, op := .move (.tmp 13), type := 4, pos := "l05_layout.go:124", after := #[{ on := 4, ground := .data }], guard := none }
abbrev oSzI6 : Oper := { dst := some 15, op := .move (.tmp 0), type := 45, pos := "l05_layout.go:124", after := #[{ on := 5, ground := .guard }], guard := some (5, false) }
abbrev oSzI7 : Oper := { dst := some 16, op := .nilCheck (.tmp 15), type := 0, pos := "l05_layout.go:124", after := #[{ on := 6, ground := .data }, { on := 5, ground := .guard }], guard := some (5, false) }
abbrev oSzI8 : Oper := { dst := some 17, op := .fieldAddr 58 (.tmp 16) 2, type := 0, pos := "l05_layout.go:124", after := #[{ on := 7, ground := .data }, { on := 5, ground := .guard }], guard := some (5, false) }
abbrev oSzI9 : Oper := { dst := some 18, op := .load 3 (.tmp 17), type := 3, pos := "l05_layout.go:124", after := #[{ on := 8, ground := .data }, { on := 5, ground := .guard }], guard := some (5, false) }
abbrev oSzI10 : Oper := { dst := some 19, op := .load 32 (.tmp 3), type := 32, pos := "l05_layout.go:124", after := #[{ on := 5, ground := .guard }], guard := some (5, false) }
abbrev oSzI11 : Oper := { dst := some 20, op := .move (.tmp 0), type := 45, pos := "l05_layout.go:124", after := #[{ on := 5, ground := .guard }], guard := some (5, false) }
abbrev oSzI12 : Oper := { dst := some 21, op := .nilCheck (.tmp 20), type := 0, pos := "l05_layout.go:124", after := #[{ on := 11, ground := .data }, { on := 5, ground := .guard }], guard := some (5, false) }
abbrev oSzI13 : Oper := { dst := some 22, op := .fieldAddr 58 (.tmp 21) 1, type := 0, pos := "l05_layout.go:124", after := #[{ on := 12, ground := .data }, { on := 5, ground := .guard }], guard := some (5, false) }
abbrev oSzI14 : Oper := { dst := some 23, op := .load 4 (.tmp 22), type := 4, pos := "l05_layout.go:124", after := #[{ on := 13, ground := .data }, { on := 5, ground := .guard }], guard := some (5, false) }
abbrev oSzI15 : Oper := { dst := some 24, op := .call { callee := .value (.func 43), args := #[.tmp 19, .tmp 23], argTypes := #[32, 4] }, type := 3, pos := "l05_layout.go:124", after := #[{ on := 10, ground := .data }, { on := 14, ground := .data }, { on := 5, ground := .chain }, { on := 5, ground := .guard }], guard := some (5, false) }
abbrev oSzI16 : Oper := { dst := some 25, op := .binOp .sub 3 (.tmp 24) (.const (.int .i64 2)) 3, type := 3, pos := "l05_layout.go:124", after := #[{ on := 15, ground := .data }, { on := 5, ground := .guard }], guard := some (5, false) }
abbrev oSzI17 : Oper := { dst := some 26, op := .binOp .gtr 3 (.tmp 18) (.tmp 25) 3, type := 4, pos := "l05_layout.go:124", after := #[{ on := 9, ground := .data }, { on := 16, ground := .data }, { on := 5, ground := .guard }], guard := some (5, false) }
abbrev oSzI18 : Oper := { dst := some 27, op := .pick (.tmp 14) (.const (.bool true)) (.tmp 26), type := 4, pos := "l05_layout.go:124", after := #[{ on := 5, ground := .data }, { on := 17, ground := .data }], guard := none }
abbrev oSzI19 : Oper := { dst := some 34, op := .move (.tmp 0), type := 45, pos := "l05_layout.go:128", after := #[], guard := none }
abbrev oSzI20 : Oper := { dst := some 35, op := .nilCheck (.tmp 34), type := 0, pos := "l05_layout.go:128", after := #[{ on := 0, ground := .data }], guard := none }
abbrev oSzI21 : Oper := { dst := some 36, op := .fieldAddr 58 (.tmp 35) 3, type := 0, pos := "l05_layout.go:128", after := #[{ on := 1, ground := .data }], guard := none }
abbrev oSzI22 : Oper := { dst := some 37, op := .load 45 (.tmp 36), type := 45, pos := "l05_layout.go:128", after := #[{ on := 2, ground := .data }], guard := none }
abbrev oSzI23 : Oper := { dst := some 38, op := .load 32 (.tmp 5), type := 32, pos := "l05_layout.go:128", after := #[], guard := none }
abbrev oSzI24 : Oper := { dst := some 39, op := .call { callee := .value (.func 40), args := #[.tmp 37, .tmp 38], argTypes := #[45, 32] }, type := 4, pos := "l05_layout.go:128", after := #[{ on := 3, ground := .data }, { on := 4, ground := .data }], guard := none }
abbrev oSzI25 : Oper := { dst := some 40, op := .move (.tmp 39), type := 4, pos := "l05_layout.go:128", after := #[{ on := 5, ground := .data }, { on := 5, ground := .chain }], guard := none }
abbrev oSzI26 : Oper := { dst := some 41, op := .move (.tmp 0), type := 45, pos := "l05_layout.go:128", after := #[{ on := 6, ground := .guard }], guard := some (6, true) }
abbrev oSzI27 : Oper := { dst := some 42, op := .nilCheck (.tmp 41), type := 0, pos := "l05_layout.go:128", after := #[{ on := 7, ground := .data }, { on := 6, ground := .guard }], guard := some (6, true) }
abbrev oSzI28 : Oper := { dst := some 43, op := .fieldAddr 58 (.tmp 42) 4, type := 0, pos := "l05_layout.go:128", after := #[{ on := 8, ground := .data }, { on := 6, ground := .guard }], guard := some (6, true) }
abbrev oSzI29 : Oper := { dst := some 44, op := .load 45 (.tmp 43), type := 45, pos := "l05_layout.go:128", after := #[{ on := 9, ground := .data }, { on := 6, ground := .guard }], guard := some (6, true) }
abbrev oSzI30 : Oper := { dst := some 45, op := .load 32 (.tmp 6), type := 32, pos := "l05_layout.go:128", after := #[{ on := 6, ground := .guard }], guard := some (6, true) }
abbrev oSzI31 : Oper := { dst := some 46, op := .call { callee := .value (.func 40), args := #[.tmp 44, .tmp 45], argTypes := #[45, 32] }, type := 4, pos := "l05_layout.go:128", after := #[{ on := 10, ground := .data }, { on := 11, ground := .data }, { on := 6, ground := .chain }, { on := 6, ground := .guard }], guard := some (6, true) }
abbrev oSzI32 : Oper := { dst := some 47, op := .pick (.tmp 40) (.tmp 46) (.const (.bool false)), type := 4, pos := "l05_layout.go:128", after := #[{ on := 6, ground := .data }, { on := 12, ground := .data }], guard := none }
abbrev oSzI33 : Oper := { dst := some 4, op := .assign (.tmp 47), type := 4, pos := "l05_layout.go:128", after := #[{ on := 13, ground := .data }, { on := 12, ground := .chain }, { on := 0, ground := .phase }, { on := 1, ground := .phase }, { on := 2, ground := .phase }, { on := 3, ground := .phase }, { on := 4, ground := .phase }, { on := 5, ground := .phase }, { on := 6, ground := .phase }, { on := 7, ground := .phase }, { on := 8, ground := .phase }, { on := 9, ground := .phase }, { on := 10, ground := .phase }, { on := 11, ground := .phase }, { on := 12, ground := .phase }, { on := 13, ground := .phase }], guard := none }
theorem fits_no1 {r : Bool} {s : Int} {l t : Tr} {W H : Int} (h : s < 2) : (Tr.split r s l t).fits W H = false := by
 cases e : (Tr.split r s l t).fits W H with
 | false => rfl
 | true =>
  rw [Tr.fits] at e
  cases r
  ·simp only [Bool.false_eq_true, if_false, Bool.and_eq_true] at e
   have := fits_two _ _ _ e.1; omega
  ·simp only [if_true, Bool.and_eq_true] at e
   have := fits_two _ _ _ e.1; omega
theorem fits_no2 {r : Bool} {s : Int} {l t : Tr} {W H : Int} (h : (if r then H else W) - 2 < s) : (Tr.split r s l t).fits W H = false := by
 cases e : (Tr.split r s l t).fits W H with
 | false => rfl
 | true =>
  rw [Tr.fits] at e
  cases r
  ·simp only [Bool.false_eq_true, if_false, Bool.and_eq_true] at e h
   have := fits_two _ _ _ e.2; omega
  ·simp only [if_true, Bool.and_eq_true] at e h
   have := fits_two _ _ _ e.2; omega
/-- The places of a split's two parts, by letters. -/
theorem cut_places {r : Bool} {s pn x y W H : Int} (hx : 0 ≤ x) (hy : 0 ≤ y) (hW : 2 ≤ W) (hH : 2 ≤ H) (h1 : x + W ≤ 1000) (h2 : y + H ≤ 1000) (hs : 2 ≤ s) (hs2 : s ≤ (if r then H else W) - 2) :
  ∃ xl yl Wl Hl xr yr Wr Hr : Int, cutL r s pn x y W H = #[.int .i64 pn, .int .i64 xl, .int .i64 yl, .int .i64 Wl, .int .i64 Hl] ∧ cutR r s pn x y W H = #[.int .i64 pn, .int .i64 xr, .int .i64 yr, .int .i64 Wr, .int .i64 Hr] ∧
   (0 ≤ xl ∧ 0 ≤ yl ∧ 2 ≤ Wl ∧ 2 ≤ Hl ∧ xl + Wl ≤ 1000 ∧ yl + Hl ≤ 1000) ∧ (0 ≤ xr ∧ 0 ≤ yr ∧ 2 ≤ Wr ∧ 2 ≤ Hr ∧ xr + Wr ≤ 1000 ∧ yr + Hr ≤ 1000) ∧ (∀ l t : Tr, (Tr.split r s l t).fits W H = (l.fits Wl Hl && t.fits Wr Hr)) := by
 cases r
 ·simp only [Bool.false_eq_true, if_false] at hs2
  exact ⟨x, y, s, H, x + s, y, W - s, H, rfl, rfl, by omega, by omega, fun l t => by rw [Tr.fits]; simp⟩
 ·simp only [if_true] at hs2
  exact ⟨x, y, W, s, x, y + s, W, H - s, rfl, rfl, by omega, by omega, fun l t => by rw [Tr.fits]; simp⟩
set_option maxHeartbeats 2000000 in
set_option maxRecDepth 100000 in
theorem isizes : ∀ (t : Tr) (b : Nat) (bs : List Nat) (pn x y W H : Int) (R : Bool) (w : World), R = t.fits W H → TreeAt iBx w t b bs → 0 ≤ x → 0 ≤ y → 2 ≤ W → 2 ≤ H → x + W ≤ 1000 → y + H ≤ 1000 →
  Calls Tryd.prog 40 #[.pointer (some ⟨b, 0, none⟩), .agg #[.int .i64 pn, .int .i64 x, .int .i64 y, .int .i64 W, .int .i64 H]] w fun e w' => e = .returned (.bool R) ∧ Below w.heap.size w w' := by
 intro t
 induction t using Tr.ind with
 | pane n =>
  intro b bs pn x y W H R w hR ht hx hy hW hH h1 h2
  obtain ⟨rfl, hbf⟩ := ht
  have HBF := hide (hbf.alloc (.cells #[.int .i64 pn, .int .i64 x, .int .i64 y, .int .i64 W, .int .i64 H] 32))
  have hf : (Tr.pane n).fits W H = true := decide_eq_true ⟨hW, hH⟩
  rw [hf] at hR
  subst hR
  clear hbf hf
  go_enter Tryd.func40, Tryd.ntmps40
  go_wp2_with fail
  refine (ipane_pane b n _ (unhide HBF)).mono ?_
  rintro e w1 ⟨rfl, rfl⟩
  go_wp2_with fail
  go_ret
  exact ⟨rfl, Go.Joins.below_alloc1 w _⟩
 | split r s l t ihl ihr =>
  intro b bs pn x y W H R w hR ht hx hy hW hH h1 h2
  obtain ⟨bl, br, Ls, Rs, rfl, hbf, htl, htr⟩ := ht
  have HB0 := hide (Go.Joins.below_alloc1 w (.cells #[.int .i64 pn, .int .i64 x, .int .i64 y, .int .i64 W, .int .i64 H] 32))
  have HBF := hide (hbf.alloc (.cells #[.int .i64 pn, .int .i64 x, .int .i64 y, .int .i64 W, .int .i64 H] 32))
  have HTL := hide (htl.alloc (.cells #[.int .i64 pn, .int .i64 x, .int .i64 y, .int .i64 W, .int .i64 H] 32))
  have HTR := hide (htr.alloc (.cells #[.int .i64 pn, .int .i64 x, .int .i64 y, .int .i64 W, .int .i64 H] 32))
  have BA := hide (BF.new w #[.int .i64 pn, .int .i64 x, .int .i64 y, .int .i64 W, .int .i64 H] 32)
  have HI := hide ihl
  have HJ := hide ihr
  have HRR := hide hR
  clear hbf htl htr ihl ihr hR
  obtain ⟨S, hS⟩ : ∃ S : Int, S = if r then H else W := ⟨_, rfl⟩
  have hS1 : 2 ≤ S ∧ S ≤ 1000 := by subst hS; split <;> omega
  have HS := hide hS
  clear hS
  by_cases hs : s < 2
  ·have hRf : R = false := by rw [unhide HRR]; exact fits_no1 hs
   clear HRR
   subst hRf
   have hd : decide (s < 2) = true := decide_eq_true hs
   go_enter Tryd.func40, Tryd.ntmps40
   go_wp2_with fail
   refine (ipane_split b r s bl br _ (unhide HBF)).mono ?_
   rintro e w1 ⟨rfl, hw⟩
   rw [← hw] at HB0 HBF HTL HTR BA
   clear hw
   have k1 : w1.cell? ⟨b, 1, none⟩ = some (.bool r) ∧ w1.cell? ⟨b, 2, none⟩ = some (.int .i64 s) ∧ ∀ o, w1.cell? ⟨w.heap.size, o, none⟩ = (#[.int .i64 pn, .int .i64 x, .int .i64 y, .int .i64 W, .int .i64 H] : Array Value)[o]? := ⟨(unhide HBF).S 1, (unhide HBF).S 2, (unhide BA).S⟩
   go_wp2_with fail
   refine wp_region_held_drew (S := fun w' => w'.cell? ⟨b, 1, none⟩ = some (.bool r) ∧ w'.cell? ⟨b, 2, none⟩ = some (.int .i64 s) ∧ ∀ o, w'.cell? ⟨w.heap.size, o, none⟩ = (#[.int .i64 pn, .int .i64 x, .int .i64 y, .int .i64 W, .int .i64 H] : Array Value)[o]?) (by kernel_rfl) k1 (fun hHeld => ?_)
   refine wtv 0 (oi := oSzI0) ?_
   refine wtv 1 (oi := oSzI1) ?_
   refine wtv 2 (oi := oSzI2) ?_
   refine wtv 3 (oi := oSzI3) ?_
   refine wtv 4 (oi := oSzI4) ?_
   refine wtv 5 (oi := oSzI5) ?_
   refine wtu 6 (oi := oSzI6) ?_
   refine wtu 7 (oi := oSzI7) ?_
   refine wtu 8 (oi := oSzI8) ?_
   refine wtu 9 (oi := oSzI9) ?_
   refine wtu 10 (oi := oSzI10) ?_
   refine wtu 11 (oi := oSzI11) ?_
   refine wtu 12 (oi := oSzI12) ?_
   refine wtu 13 (oi := oSzI13) ?_
   refine wtu 14 (oi := oSzI14) ?_
   refine wpAnyH_ready (rs := [15]) (by kernel_rfl) (by simp) ?_
   refine AllReadyH.cons (o := oSzI15) rfl (fun K hK => ?_) AllReadyH.nil
   go_simp
   refine hK.out _ _ ?_ (fun hHeld15 => ?_)
   ·exact k1
   clear hK K
   try simp only [Act.put, qqA, qqB, qqC]
   refine wtu 16 (oi := oSzI16) ?_
   refine wtu 17 (oi := oSzI17) ?_
   refine wtv 18 (oi := oSzI18) ?_
   refine wpAnyH_done (by kernel_rfl) ?_ _
   go_wp2_with fail
   go_ret
   exact ⟨rfl, (unhide HB0).drew⟩
  ·have hd : decide (s < 2) = false := decide_eq_false hs
   have hs2 : 2 ≤ s := by omega
   clear hs
   have ew : IntKind.i64.wrap (S - 2) = S - 2 := wrapi _ (by omega) (by omega)
   by_cases hb : S - 2 < s
   ·have hRf : R = false := by rw [unhide HRR]; exact fits_no2 (by rw [← unhide HS]; exact hb)
    clear HRR
    subst hRf
    have hd2 : decide (S - 2 < s) = true := decide_eq_true hb
    go_enter Tryd.func40, Tryd.ntmps40
    go_wp2_with fail
    refine (ipane_split b r s bl br _ (unhide HBF)).mono ?_
    rintro e w1 ⟨rfl, hw⟩
    rw [← hw] at HB0 HBF HTL HTR BA
    clear hw
    have k1 : w1.cell? ⟨b, 1, none⟩ = some (.bool r) ∧ w1.cell? ⟨b, 2, none⟩ = some (.int .i64 s) ∧ ∀ o, w1.cell? ⟨w.heap.size, o, none⟩ = (#[.int .i64 pn, .int .i64 x, .int .i64 y, .int .i64 W, .int .i64 H] : Array Value)[o]? := ⟨(unhide HBF).S 1, (unhide HBF).S 2, (unhide BA).S⟩
    go_wp2_with fail
    refine wp_region_held_drew (S := fun w' => w'.cell? ⟨b, 1, none⟩ = some (.bool r) ∧ w'.cell? ⟨b, 2, none⟩ = some (.int .i64 s) ∧ ∀ o, w'.cell? ⟨w.heap.size, o, none⟩ = (#[.int .i64 pn, .int .i64 x, .int .i64 y, .int .i64 W, .int .i64 H] : Array Value)[o]?) (by kernel_rfl) k1 (fun hHeld => ?_)
    refine wtv 0 (oi := oSzI0) ?_
    refine wtv 1 (oi := oSzI1) ?_
    refine wtv 2 (oi := oSzI2) ?_
    refine wtv 3 (oi := oSzI3) ?_
    refine wtv 4 (oi := oSzI4) ?_
    refine wtv 5 (oi := oSzI5) ?_
    refine wtv 6 (oi := oSzI6) ?_
    refine wtv 7 (oi := oSzI7) ?_
    refine wtv 8 (oi := oSzI8) ?_
    refine wtv 9 (oi := oSzI9) ?_
    refine wtv 10 (oi := oSzI10) ?_
    refine wtv 11 (oi := oSzI11) ?_
    refine wtv 12 (oi := oSzI12) ?_
    refine wtv 13 (oi := oSzI13) ?_
    refine wtv 14 (oi := oSzI14) ?_
    refine wpAnyH_ready (rs := [15]) (by kernel_rfl) (by simp) ?_
    refine AllReadyH.cons (o := oSzI15) rfl (fun K hK => ?_) AllReadyH.nil
    go_simp
    refine (iside pn x y W H r _).mono ?_
    rintro e w2 ⟨rfl, hb2⟩
    rw [← unhide HS]
    have F2 := hide ((unhide HBF).drew.below hb2)
    have A2 := hide ((unhide BA).drew.below hb2)
    have k2 : w2.cell? ⟨b, 1, none⟩ = some (.bool r) ∧ w2.cell? ⟨b, 2, none⟩ = some (.int .i64 s) ∧ ∀ o, w2.cell? ⟨w.heap.size, o, none⟩ = (#[.int .i64 pn, .int .i64 x, .int .i64 y, .int .i64 W, .int .i64 H] : Array Value)[o]? := ⟨(unhide F2).S 1, (unhide F2).S 2, (unhide A2).S⟩
    have HB2 := hide ((unhide HB0).trans ((below_undrew hb2).mono (unhide HB0).size))
    have TL2 := hide ((unhide HTL).drew.below hb2)
    have TR2 := hide ((unhide HTR).drew.below hb2)
    clear hb2
    go_wp2_with fail
    refine hK.out _ _ ?_ (fun hHeld15 => ?_)
    ·exact k2
    clear hK K
    try simp only [Act.put, qqA, qqB, qqC]
    refine wtv 16 (oi := oSzI16) ?_
    refine wtv 17 (oi := oSzI17) ?_
    refine wtv 18 (oi := oSzI18) ?_
    refine wpAnyH_done (by kernel_rfl) ?_ _
    go_wp2_with fail
    go_ret
    exact ⟨rfl, unhide HB2⟩
   ·have hd2 : decide (S - 2 < s) = false := decide_eq_false hb
    have hs3 : s ≤ S - 2 := by omega
    clear hb
    obtain ⟨xl, yl, Wl, Hl, xr, yr, Wr, Hr, eL, eR, bL, bR, ef⟩ := cut_places (pn := pn) hx hy hW hH h1 h2 hs2 (by rw [← unhide HS]; exact hs3)
    have hRe := unhide HRR
    rw [ef l t] at hRe
    have HRE := hide hRe
    have HEL := hide eL
    have HER := hide eR
    have HbL := hide bL
    have HbR := hide bR
    clear HRR hRe eL eR bL bR ef
    go_enter Tryd.func40, Tryd.ntmps40
    go_wp2_with fail
    refine (ipane_split b r s bl br _ (unhide HBF)).mono ?_
    rintro e w1 ⟨rfl, hw⟩
    rw [← hw] at HB0 HBF HTL HTR BA
    clear hw
    have k1 : w1.cell? ⟨b, 1, none⟩ = some (.bool r) ∧ w1.cell? ⟨b, 2, none⟩ = some (.int .i64 s) ∧ ∀ o, w1.cell? ⟨w.heap.size, o, none⟩ = (#[.int .i64 pn, .int .i64 x, .int .i64 y, .int .i64 W, .int .i64 H] : Array Value)[o]? := ⟨(unhide HBF).S 1, (unhide HBF).S 2, (unhide BA).S⟩
    go_wp2_with fail
    refine wp_region_held_drew (S := fun w' => w'.cell? ⟨b, 1, none⟩ = some (.bool r) ∧ w'.cell? ⟨b, 2, none⟩ = some (.int .i64 s) ∧ ∀ o, w'.cell? ⟨w.heap.size, o, none⟩ = (#[.int .i64 pn, .int .i64 x, .int .i64 y, .int .i64 W, .int .i64 H] : Array Value)[o]?) (by kernel_rfl) k1 (fun hHeld => ?_)
    refine wtv 0 (oi := oSzI0) ?_
    refine wtv 1 (oi := oSzI1) ?_
    refine wtv 2 (oi := oSzI2) ?_
    refine wtv 3 (oi := oSzI3) ?_
    refine wtv 4 (oi := oSzI4) ?_
    refine wtv 5 (oi := oSzI5) ?_
    refine wtv 6 (oi := oSzI6) ?_
    refine wtv 7 (oi := oSzI7) ?_
    refine wtv 8 (oi := oSzI8) ?_
    refine wtv 9 (oi := oSzI9) ?_
    refine wtv 10 (oi := oSzI10) ?_
    refine wtv 11 (oi := oSzI11) ?_
    refine wtv 12 (oi := oSzI12) ?_
    refine wtv 13 (oi := oSzI13) ?_
    refine wtv 14 (oi := oSzI14) ?_
    refine wpAnyH_ready (rs := [15]) (by kernel_rfl) (by simp) ?_
    refine AllReadyH.cons (o := oSzI15) rfl (fun K hK => ?_) AllReadyH.nil
    go_simp
    refine (iside pn x y W H r _).mono ?_
    rintro e w2 ⟨rfl, hb2⟩
    rw [← unhide HS]
    have F2 := hide ((unhide HBF).drew.below hb2)
    have A2 := hide ((unhide BA).drew.below hb2)
    have k2 : w2.cell? ⟨b, 1, none⟩ = some (.bool r) ∧ w2.cell? ⟨b, 2, none⟩ = some (.int .i64 s) ∧ ∀ o, w2.cell? ⟨w.heap.size, o, none⟩ = (#[.int .i64 pn, .int .i64 x, .int .i64 y, .int .i64 W, .int .i64 H] : Array Value)[o]? := ⟨(unhide F2).S 1, (unhide F2).S 2, (unhide A2).S⟩
    have HB2 := hide ((unhide HB0).trans ((below_undrew hb2).mono (unhide HB0).size))
    have TL2 := hide ((unhide HTL).drew.below hb2)
    have TR2 := hide ((unhide HTR).drew.below hb2)
    clear hb2
    go_wp2_with fail
    refine hK.out _ _ ?_ (fun hHeld15 => ?_)
    ·exact k2
    clear hK K
    try simp only [Act.put, qqA, qqB, qqC]
    refine wtv 16 (oi := oSzI16) ?_
    refine wtv 17 (oi := oSzI17) ?_
    refine wtv 18 (oi := oSzI18) ?_
    refine wpAnyH_done (by kernel_rfl) ?_ _
    have a2 := (unhide A2).S
    clear k1 k2
    go_wp2_with fail
    refine (icut b bl br r s pn x y W H (by have := hS1; omega) (by omega) (by omega) (by omega) (by omega) _ (unhide F2)).mono ?_
    rintro e w3 ⟨rfl, hb3⟩
    rw [unhide HEL, unhide HER]
    have F3 := hide ((unhide F2).below hb3)
    have TL3 := hide ((unhide TL2).below hb3)
    have TR3 := hide ((unhide TR2).below hb3)
    have HB3 := hide ((unhide HB2).trans (hb3.mono (unhide HB2).size))
    clear hb3 a2
    have f3 := (unhide F3).S
    have F4 := hide (((unhide F3).alloc (.cells #[.int .i64 pn, .int .i64 xl, .int .i64 yl, .int .i64 Wl, .int .i64 Hl] 32)).alloc (.cells #[.int .i64 pn, .int .i64 xr, .int .i64 yr, .int .i64 Wr, .int .i64 Hr] 32))
    have TL4 := hide (((unhide TL3).alloc (.cells #[.int .i64 pn, .int .i64 xl, .int .i64 yl, .int .i64 Wl, .int .i64 Hl] 32)).alloc (.cells #[.int .i64 pn, .int .i64 xr, .int .i64 yr, .int .i64 Wr, .int .i64 Hr] 32))
    have TR4 := hide (((unhide TR3).alloc (.cells #[.int .i64 pn, .int .i64 xl, .int .i64 yl, .int .i64 Wl, .int .i64 Hl] 32)).alloc (.cells #[.int .i64 pn, .int .i64 xr, .int .i64 yr, .int .i64 Wr, .int .i64 Hr] 32))
    have PL := hide ((BF.new w3 #[.int .i64 pn, .int .i64 xl, .int .i64 yl, .int .i64 Wl, .int .i64 Hl] 32).alloc (.cells #[.int .i64 pn, .int .i64 xr, .int .i64 yr, .int .i64 Wr, .int .i64 Hr] 32))
    have PR := hide (BF.new (w3.alloc (.cells #[.int .i64 pn, .int .i64 xl, .int .i64 yl, .int .i64 Wl, .int .i64 Hl] 32)) #[.int .i64 pn, .int .i64 xr, .int .i64 yr, .int .i64 Wr, .int .i64 Hr] 32)
    rw [show (w3.alloc (.cells #[.int .i64 pn, .int .i64 xl, .int .i64 yl, .int .i64 Wl, .int .i64 Hl] 32)).heap.size = w3.heap.size + 1 from by simp] at PR
    have HB4 := hide ((unhide HB3).trans ((Go.Joins.below_alloc2 w3 (.cells #[.int .i64 pn, .int .i64 xl, .int .i64 yl, .int .i64 Wl, .int .i64 Hl] 32) (.cells #[.int .i64 pn, .int .i64 xr, .int .i64 yr, .int .i64 Wr, .int .i64 Hr] 32)).mono (unhide HB3).size))
    clear F3 TL3 TR3 HB3 F2 TL2 TR2 HB2 HBF HTL HTR BA HB0 A2
    go_wp2_with fail
    generalize (w3.alloc (Obj.cells #[.int .i64 pn, .int .i64 xl, .int .i64 yl, .int .i64 Wl, .int .i64 Hl] 32)).alloc (Obj.cells #[.int .i64 pn, .int .i64 xr, .int .i64 yr, .int .i64 Wr, .int .i64 Hr] 32) = w4 at F4 TL4 TR4 PL PR HB4 ⊢
    have k4 : w4.cell? ⟨b, 3, none⟩ = some (.pointer (some ⟨bl, 0, none⟩)) ∧ w4.cell? ⟨b, 4, none⟩ = some (.pointer (some ⟨br, 0, none⟩)) ∧ (∀ o, w4.cell? ⟨w3.heap.size, o, none⟩ = (#[.int .i64 pn, .int .i64 xl, .int .i64 yl, .int .i64 Wl, .int .i64 Hl] : Array Value)[o]?) ∧ (∀ o, w4.cell? ⟨w3.heap.size + 1, o, none⟩ = (#[.int .i64 pn, .int .i64 xr, .int .i64 yr, .int .i64 Wr, .int .i64 Hr] : Array Value)[o]?) := ⟨(unhide F4).S 3, (unhide F4).S 4, (unhide PL).S, (unhide PR).S⟩
    clear f3
    obtain ⟨bL0, bL1, bL2, bL3, bL4, bL5⟩ := unhide HbL
    obtain ⟨bR0, bR1, bR2, bR3, bR4, bR5⟩ := unhide HbR
    cases hl : l.fits Wl Hl with
    | false =>
     have hRf : R = false := by rw [unhide HRE, hl]; rfl
     clear HRE
     subst hRf
     refine wp_region_held_drew (S := fun w' => w'.cell? ⟨b, 3, none⟩ = some (.pointer (some ⟨bl, 0, none⟩)) ∧ w'.cell? ⟨b, 4, none⟩ = some (.pointer (some ⟨br, 0, none⟩)) ∧ (∀ o, w'.cell? ⟨w3.heap.size, o, none⟩ = (#[.int .i64 pn, .int .i64 xl, .int .i64 yl, .int .i64 Wl, .int .i64 Hl] : Array Value)[o]?) ∧ (∀ o, w'.cell? ⟨w3.heap.size + 1, o, none⟩ = (#[.int .i64 pn, .int .i64 xr, .int .i64 yr, .int .i64 Wr, .int .i64 Hr] : Array Value)[o]?)) (by kernel_rfl) k4 (fun hHeld => ?_)
     refine wtv 0 (oi := oSzI19) ?_
     refine wtv 1 (oi := oSzI20) ?_
     refine wtv 2 (oi := oSzI21) ?_
     refine wtv 3 (oi := oSzI22) ?_
     refine wtv 4 (oi := oSzI23) ?_
     refine wpAnyH_ready (rs := [5]) (by kernel_rfl) (by simp) ?_
     refine AllReadyH.cons (o := oSzI24) rfl (fun K hK => ?_) AllReadyH.nil
     go_simp
     refine (unhide HI bl Ls pn xl yl Wl Hl false _ hl.symm (unhide TL4).drew bL0 bL1 bL2 bL3 bL4 bL5).mono ?_
     rintro e w5 ⟨rfl, hb5⟩
     have F5 := hide ((unhide F4).drew.below hb5)
     have P5 := hide ((unhide PL).drew.below hb5)
     have Q5 := hide ((unhide PR).drew.below hb5)
     have k5 : w5.cell? ⟨b, 3, none⟩ = some (.pointer (some ⟨bl, 0, none⟩)) ∧ w5.cell? ⟨b, 4, none⟩ = some (.pointer (some ⟨br, 0, none⟩)) ∧ (∀ o, w5.cell? ⟨w3.heap.size, o, none⟩ = (#[.int .i64 pn, .int .i64 xl, .int .i64 yl, .int .i64 Wl, .int .i64 Hl] : Array Value)[o]?) ∧ (∀ o, w5.cell? ⟨w3.heap.size + 1, o, none⟩ = (#[.int .i64 pn, .int .i64 xr, .int .i64 yr, .int .i64 Wr, .int .i64 Hr] : Array Value)[o]?) := ⟨(unhide F5).S 3, (unhide F5).S 4, (unhide P5).S, (unhide Q5).S⟩
     have TR5 := hide ((unhide TR4).drew.below hb5)
     have HB5 := hide ((unhide HB4).trans ((below_undrew hb5).mono (unhide HB4).size))
     clear hb5
     go_wp2_with fail
     refine hK.out _ _ ?_ (fun hHeld5 => ?_)
     ·exact k5
     clear hK K
     try simp only [Act.put, qqA, qqB, qqC]
     refine wtv 6 (oi := oSzI25) ?_
     refine wtu 7 (oi := oSzI26) ?_
     refine wtu 8 (oi := oSzI27) ?_
     refine wtu 9 (oi := oSzI28) ?_
     refine wtu 10 (oi := oSzI29) ?_
     refine wtu 11 (oi := oSzI30) ?_
     refine wpAnyH_ready (rs := [12]) (by kernel_rfl) (by simp) ?_
     refine AllReadyH.cons (o := oSzI31) rfl (fun K hK => ?_) AllReadyH.nil
     go_simp
     refine hK.out _ _ ?_ (fun hHeld12 => ?_)
     ·exact k5
     clear hK K
     try simp only [Act.put, qqA, qqB, qqC]
     refine wtv 13 (oi := oSzI32) ?_
     refine wtv 14 (oi := oSzI33) ?_
     refine wpAnyH_done (by kernel_rfl) ?_ _
     go_wp2_with fail
     go_ret
     exact ⟨rfl, unhide HB5⟩
    | true =>
     have hRt : R = t.fits Wr Hr := by rw [unhide HRE, hl]; rfl
     have HRT := hide hRt
     clear HRE hRt
     refine wp_region_held_drew (S := fun w' => w'.cell? ⟨b, 3, none⟩ = some (.pointer (some ⟨bl, 0, none⟩)) ∧ w'.cell? ⟨b, 4, none⟩ = some (.pointer (some ⟨br, 0, none⟩)) ∧ (∀ o, w'.cell? ⟨w3.heap.size, o, none⟩ = (#[.int .i64 pn, .int .i64 xl, .int .i64 yl, .int .i64 Wl, .int .i64 Hl] : Array Value)[o]?) ∧ (∀ o, w'.cell? ⟨w3.heap.size + 1, o, none⟩ = (#[.int .i64 pn, .int .i64 xr, .int .i64 yr, .int .i64 Wr, .int .i64 Hr] : Array Value)[o]?)) (by kernel_rfl) k4 (fun hHeld => ?_)
     refine wtv 0 (oi := oSzI19) ?_
     refine wtv 1 (oi := oSzI20) ?_
     refine wtv 2 (oi := oSzI21) ?_
     refine wtv 3 (oi := oSzI22) ?_
     refine wtv 4 (oi := oSzI23) ?_
     refine wpAnyH_ready (rs := [5]) (by kernel_rfl) (by simp) ?_
     refine AllReadyH.cons (o := oSzI24) rfl (fun K hK => ?_) AllReadyH.nil
     go_simp
     refine (unhide HI bl Ls pn xl yl Wl Hl true _ hl.symm (unhide TL4).drew bL0 bL1 bL2 bL3 bL4 bL5).mono ?_
     rintro e w5 ⟨rfl, hb5⟩
     have F5 := hide ((unhide F4).drew.below hb5)
     have P5 := hide ((unhide PL).drew.below hb5)
     have Q5 := hide ((unhide PR).drew.below hb5)
     have k5 : w5.cell? ⟨b, 3, none⟩ = some (.pointer (some ⟨bl, 0, none⟩)) ∧ w5.cell? ⟨b, 4, none⟩ = some (.pointer (some ⟨br, 0, none⟩)) ∧ (∀ o, w5.cell? ⟨w3.heap.size, o, none⟩ = (#[.int .i64 pn, .int .i64 xl, .int .i64 yl, .int .i64 Wl, .int .i64 Hl] : Array Value)[o]?) ∧ (∀ o, w5.cell? ⟨w3.heap.size + 1, o, none⟩ = (#[.int .i64 pn, .int .i64 xr, .int .i64 yr, .int .i64 Wr, .int .i64 Hr] : Array Value)[o]?) := ⟨(unhide F5).S 3, (unhide F5).S 4, (unhide P5).S, (unhide Q5).S⟩
     have TR5 := hide ((unhide TR4).drew.below hb5)
     have HB5 := hide ((unhide HB4).trans ((below_undrew hb5).mono (unhide HB4).size))
     clear hb5
     go_wp2_with fail
     refine hK.out _ _ ?_ (fun hHeld5 => ?_)
     ·exact k5
     clear hK K
     try simp only [Act.put, qqA, qqB, qqC]
     refine wtv 6 (oi := oSzI25) ?_
     refine wtv 7 (oi := oSzI26) ?_
     refine wtv 8 (oi := oSzI27) ?_
     refine wtv 9 (oi := oSzI28) ?_
     refine wtv 10 (oi := oSzI29) ?_
     refine wtv 11 (oi := oSzI30) ?_
     refine wpAnyH_ready (rs := [12]) (by kernel_rfl) (by simp) ?_
     refine AllReadyH.cons (o := oSzI31) rfl (fun K hK => ?_) AllReadyH.nil
     go_simp
     refine (unhide HJ br Rs pn xr yr Wr Hr R _ (unhide HRT) (unhide TR5) bR0 bR1 bR2 bR3 bR4 bR5).mono ?_
     rintro e w6 ⟨rfl, hb6⟩
     have F6 := hide ((unhide F5).below hb6)
     have P6 := hide ((unhide P5).below hb6)
     have Q6 := hide ((unhide Q5).below hb6)
     have k6 : w6.cell? ⟨b, 3, none⟩ = some (.pointer (some ⟨bl, 0, none⟩)) ∧ w6.cell? ⟨b, 4, none⟩ = some (.pointer (some ⟨br, 0, none⟩)) ∧ (∀ o, w6.cell? ⟨w3.heap.size, o, none⟩ = (#[.int .i64 pn, .int .i64 xl, .int .i64 yl, .int .i64 Wl, .int .i64 Hl] : Array Value)[o]?) ∧ (∀ o, w6.cell? ⟨w3.heap.size + 1, o, none⟩ = (#[.int .i64 pn, .int .i64 xr, .int .i64 yr, .int .i64 Wr, .int .i64 Hr] : Array Value)[o]?) := ⟨(unhide F6).S 3, (unhide F6).S 4, (unhide P6).S, (unhide Q6).S⟩
     have HB6 := hide ((unhide HB5).trans (hb6.mono (unhide HB5).size))
     clear hb6
     go_wp2_with fail
     refine hK.out _ _ ?_ (fun hHeld12 => ?_)
     ·exact k6
     clear hK K
     try simp only [Act.put, qqA, qqB, qqC]
     refine wtv 13 (oi := oSzI32) ?_
     refine wtv 14 (oi := oSzI33) ?_
     refine wpAnyH_done (by kernel_rfl) ?_ _
     go_wp2_with fail
     go_ret
     exact ⟨rfl, unhide HB6⟩
end Go.Proofs.YtgnecacoehedkaaDoor
