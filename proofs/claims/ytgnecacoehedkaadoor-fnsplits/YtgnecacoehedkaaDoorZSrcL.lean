/- A drawn layout is a right one. -/
import Derived.Test.YtgnecacoehedkaaDoorZG4
import Derived.Test.YtgnecacoehedkaaDoorZG30
import Derived.Test.YtgnecacoehedkaaDoorZG31
namespace Go.Proofs.YtgnecacoehedkaaDoor
open Go.ChangeShapes Go.WideShapes Go.ChangeAt Go.RowKit
set_option linter.unusedVariables false
set_option linter.unusedSimpArgs false
abbrev oSrcL0 : Oper := { dst := some 36, op := .load 26 (.tmp 7), type := 26, pos := "l05_layout.go:336", after := #[], guard := none }
abbrev oSrcL1 : Oper := { dst := some 40, op := .call { callee := .value (.func 29), args := #[.tmp 39, .const (.int .i64 6)], argTypes := #[40, 3] }, type := 3, pos := "l05_layout.go:336", after := #[{ on := 3, ground := .data }], guard := none }
abbrev oSrcL2 : Oper := { dst := some 41, op := .binOp .add 3 (.const (.int .i64 1)) (.tmp 40) 3, type := 3, pos := "l05_layout.go:336", after := #[{ on := 4, ground := .data }], guard := none }
abbrev oSrcL3 : Oper := { dst := some 42, op := .call { callee := .value (.func 30), args := #[.tmp 36, .tmp 37, .tmp 38, .tmp 41], argTypes := #[26, 3, 3, 3] }, type := 33, pos := "l05_layout.go:336", after := #[{ on := 0, ground := .data }, { on := 1, ground := .data }, { on := 2, ground := .data }, { on := 5, ground := .data }, { on := 4, ground := .chain }], guard := none }
abbrev oSrcL4 : Oper := { dst := some 35, op := .move (.tmp 42), type := 33, pos := "l05_layout.go:336", after := #[{ on := 6, ground := .data }], guard := none }
abbrev oSrcL5 : Oper := { dst := some 43, op := .extract (.tmp 35) 0, type := 26, pos := "l05_layout.go:336", after := #[{ on := 7, ground := .data }], guard := none }
abbrev oSrcL6 : Oper := { dst := some 44, op := .extract (.tmp 35) 1, type := 3, pos := "l05_layout.go:336", after := #[{ on := 7, ground := .data }, { on := 10, ground := .gcOnly Go.Departure.lateStores }], guard := none }
abbrev oSrcL7 : Oper := { dst := none, op := .store 26 (.tmp 7) (.tmp 43), type := 0, pos := "l05_layout.go:336", after := #[{ on := 8, ground := .data }, { on := 6, ground := .chain }, { on := 0, ground := .phase }, { on := 1, ground := .phase }, { on := 2, ground := .phase }, { on := 3, ground := .phase }, { on := 4, ground := .phase }, { on := 5, ground := .phase }, { on := 6, ground := .phase }, { on := 7, ground := .phase }, { on := 8, ground := .phase }, { on := 9, ground := .textOnly Go.Departure.lateStores }], guard := none }
abbrev oSrcL8 : Oper := { dst := some 48, op := .load 26 (.tmp 7), type := 26, pos := "l05_layout.go:338", after := #[], guard := none }
abbrev oSrcL9 : Oper := { dst := some 52, op := .call { callee := .value (.func 29), args := #[.tmp 51, .const (.int .i64 6)], argTypes := #[40, 3] }, type := 3, pos := "l05_layout.go:338", after := #[{ on := 3, ground := .data }], guard := none }
abbrev oSrcL10 : Oper := { dst := some 53, op := .binOp .add 3 (.const (.int .i64 1)) (.tmp 52) 3, type := 3, pos := "l05_layout.go:338", after := #[{ on := 4, ground := .data }], guard := none }
abbrev oSrcL11 : Oper := { dst := some 55, op := .call { callee := .value (.func 29), args := #[.tmp 54, .const (.int .i64 9)], argTypes := #[40, 3] }, type := 3, pos := "l05_layout.go:338", after := #[{ on := 6, ground := .data }, { on := 4, ground := .chain }], guard := none }
abbrev oSrcL12 : Oper := { dst := some 56, op := .binOp .sub 3 (.tmp 55) (.const (.int .i64 4)) 3, type := 3, pos := "l05_layout.go:338", after := #[{ on := 7, ground := .data }], guard := none }
abbrev oSrcL13 : Oper := { dst := some 57, op := .call { callee := .value (.func 31), args := #[.tmp 48, .tmp 49, .tmp 50, .tmp 53, .tmp 56], argTypes := #[26, 3, 3, 3, 3] }, type := 33, pos := "l05_layout.go:338", after := #[{ on := 0, ground := .data }, { on := 1, ground := .data }, { on := 2, ground := .data }, { on := 5, ground := .data }, { on := 8, ground := .data }, { on := 7, ground := .chain }], guard := none }
abbrev oSrcL14 : Oper := { dst := some 47, op := .move (.tmp 57), type := 33, pos := "l05_layout.go:338", after := #[{ on := 9, ground := .data }], guard := none }
abbrev oSrcL15 : Oper := { dst := some 58, op := .extract (.tmp 47) 0, type := 26, pos := "l05_layout.go:338", after := #[{ on := 10, ground := .data }], guard := none }
abbrev oSrcL16 : Oper := { dst := some 59, op := .extract (.tmp 47) 1, type := 3, pos := "l05_layout.go:338", after := #[{ on := 10, ground := .data }, { on := 13, ground := .gcOnly Go.Departure.lateStores }], guard := none }
abbrev oSrcL17 : Oper := { dst := none, op := .store 26 (.tmp 7) (.tmp 58), type := 0, pos := "l05_layout.go:338", after := #[{ on := 11, ground := .data }, { on := 9, ground := .chain }, { on := 0, ground := .phase }, { on := 1, ground := .phase }, { on := 2, ground := .phase }, { on := 3, ground := .phase }, { on := 4, ground := .phase }, { on := 5, ground := .phase }, { on := 6, ground := .phase }, { on := 7, ground := .phase }, { on := 8, ground := .phase }, { on := 9, ground := .phase }, { on := 10, ground := .phase }, { on := 11, ground := .phase }, { on := 12, ground := .textOnly Go.Departure.lateStores }], guard := none }
abbrev oSrcL18 : Oper := { dst := some 19, op := .load 26 (.tmp 7), type := 26, pos := "l05_layout.go:340", after := #[], guard := none }
abbrev oSrcL19 : Oper := { dst := some 23, op := .call { callee := .value (.func 29), args := #[.tmp 22, .const (.int .i64 6)], argTypes := #[40, 3] }, type := 3, pos := "l05_layout.go:340", after := #[{ on := 3, ground := .data }], guard := none }
abbrev oSrcL20 : Oper := { dst := some 24, op := .binOp .add 3 (.const (.int .i64 1)) (.tmp 23) 3, type := 3, pos := "l05_layout.go:340", after := #[{ on := 4, ground := .data }], guard := none }
abbrev oSrcL21 : Oper := { dst := some 26, op := .call { callee := .value (.func 29), args := #[.tmp 25, .const (.int .i64 6)], argTypes := #[40, 3] }, type := 3, pos := "l05_layout.go:340", after := #[{ on := 6, ground := .data }, { on := 4, ground := .chain }], guard := none }
abbrev oSrcL22 : Oper := { dst := some 27, op := .binOp .add 3 (.const (.int .i64 1)) (.tmp 26) 3, type := 3, pos := "l05_layout.go:340", after := #[{ on := 7, ground := .data }], guard := none }
abbrev oSrcL23 : Oper := { dst := some 29, op := .call { callee := .value (.func 32), args := #[.tmp 28, .const (.int .i64 2)], argTypes := #[40, 3] }, type := 4, pos := "l05_layout.go:340", after := #[{ on := 9, ground := .data }, { on := 7, ground := .chain }], guard := none }
abbrev oSrcL24 : Oper := { dst := some 30, op := .call { callee := .value (.func 22), args := #[.tmp 19, .tmp 20, .tmp 21, .tmp 24, .tmp 27, .tmp 29], argTypes := #[26, 3, 3, 3, 3, 4] }, type := 33, pos := "l05_layout.go:340", after := #[{ on := 0, ground := .data }, { on := 1, ground := .data }, { on := 2, ground := .data }, { on := 5, ground := .data }, { on := 8, ground := .data }, { on := 10, ground := .data }, { on := 10, ground := .chain }], guard := none }
abbrev oSrcL25 : Oper := { dst := some 18, op := .move (.tmp 30), type := 33, pos := "l05_layout.go:340", after := #[{ on := 11, ground := .data }], guard := none }
abbrev oSrcL26 : Oper := { dst := some 31, op := .extract (.tmp 18) 0, type := 26, pos := "l05_layout.go:340", after := #[{ on := 12, ground := .data }], guard := none }
abbrev oSrcL27 : Oper := { dst := some 32, op := .extract (.tmp 18) 1, type := 3, pos := "l05_layout.go:340", after := #[{ on := 12, ground := .data }, { on := 15, ground := .gcOnly Go.Departure.lateStores }], guard := none }
abbrev oSrcL28 : Oper := { dst := none, op := .store 26 (.tmp 7) (.tmp 31), type := 0, pos := "l05_layout.go:340", after := #[{ on := 13, ground := .data }, { on := 11, ground := .chain }, { on := 0, ground := .phase }, { on := 1, ground := .phase }, { on := 2, ground := .phase }, { on := 3, ground := .phase }, { on := 4, ground := .phase }, { on := 5, ground := .phase }, { on := 6, ground := .phase }, { on := 7, ground := .phase }, { on := 8, ground := .phase }, { on := 9, ground := .phase }, { on := 10, ground := .phase }, { on := 11, ground := .phase }, { on := 12, ground := .phase }, { on := 13, ground := .phase }, { on := 14, ground := .textOnly Go.Departure.lateStores }], guard := none }
theorem tofS_pos {l : List Pt} {W H : Int} {t : Tr} (e : tofS l W H = some t) : 0 < l.length := by
 have := (tofS_ok e).2.2.1; have := t.cnt_pos; omega
/-- A draw of a layout under way: the source, the answer's block, the layout so far in a block of its own. -/
def Dr (w0 : World) (g z r : Nat) (a : Option Addr) (cap : Nat) (lc : List UInt8) (l : List Pt) (a2 : Option Addr) (cap2 p s : Nat) (w : World) : Prop :=
 SrcAt w g a cap lc p s ∧ w0.grownBy w (some g) ∧ BF z #[.slice a2 l.length cap2] w ∧ BF r #[.slice none 0 0] w ∧ RowV w a2 (cPt l)
/-- Parts don't lie where no integer stands ahead of a bool. -/
theorem row_off {w : World} {a2 : Option Addr} {l : List Pt} (h : RowV w a2 (cPt l)) (hl : 0 < l.length) : ∃ b off, a2 = some ⟨b, off, none⟩ ∧ b < w.heap.size ∧ (∀ i u, (cPt l)[i]? = some u → w.cell? ⟨b, off + i, none⟩ = some u) ∧ (∃ i, w.cell? ⟨b, off, none⟩ = some (.int .i64 i)) ∧ ∃ q, w.cell? ⟨b, off + 1, none⟩ = some (.bool q) := by
 obtain ⟨b, off, e, hlt, hc⟩ := h.at (by rw [cPt_len]; omega)
 obtain ⟨c0, c1, -⟩ := cPt_at l 0 hl
 exact ⟨b, off, e, hlt, hc, ⟨_, by simpa using hc _ _ c0⟩, ⟨_, by simpa using hc _ _ c1⟩⟩
theorem bf_not {w : World} {b z off : Nat} {v : Value} (h : BF z #[v] w) (h1 : ∃ q, w.cell? ⟨b, off + 1, none⟩ = some (.bool q)) : b ≠ z := by
 rintro rfl
 obtain ⟨q, hq⟩ := h1
 rw [h.S] at hq
 simp at hq
theorem src_not {w : World} {b g off cap p s : Nat} {a : Option Addr} {lc : List UInt8} (h : SrcAt w g a cap lc p s) (h1 : ∃ q, w.cell? ⟨b, off + 1, none⟩ = some (.bool q)) : b ≠ g := by
 rintro rfl
 obtain ⟨q, hq⟩ := h1
 rw [ArrAt.cell h] at hq
 match off, hq with
 | 0, hq => simp at hq
 | 1, hq => simp at hq
 | _ + 2, hq => simp at hq
theorem row_grown {w w' : World} {a2 : Option Addr} {l : List Pt} {g : Nat} (h : RowV w a2 (cPt l)) (hl : 0 < l.length) (hg : w.grownBy w' (some g)) (hn : ∀ b off, a2 = some ⟨b, off, none⟩ → (∃ q, w.cell? ⟨b, off + 1, none⟩ = some (.bool q)) → b ≠ g) : RowV w' a2 (cPt l) := by
 obtain ⟨b, off, e, hlt, hc, -, h1⟩ := row_off h hl
 have hne := hn b off e h1
 exact .inr ⟨b, off, e, Nat.lt_of_lt_of_le hlt hg.size, fun i u hu => (World.cell?_of_block (hg.block b hlt (fun e2 => hne (Option.some.inj e2)))).trans (hc i u hu)⟩
theorem below_grown {w w' : World} (h : Below w.heap.size w w') (row : Option Nat) : w.grownBy w' row := ⟨h.os, h.tape, h.output, h.size, fun k hk _ => h.block k hk⟩
theorem Dr.nx {w0 w w' : World} {g z r : Nat} {a : Option Addr} {cap : Nat} {lc : List UInt8} {l : List Pt} {a2 : Option Addr} {cap2 p s p' s' : Nat} (h : Dr w0 g z r a cap lc l a2 cap2 p s w) (hg : w.grownBy w' (some g)) (hA : SrcAt w' g a cap lc p' s') (hgz : g ≠ z) (hgr : g ≠ r) (hl : 0 < l.length) : Dr w0 g z r a cap lc l a2 cap2 p' s' w' :=
 ⟨hA, World.grownBy.trans' h.2.1 hg, h.2.2.1.grown hg (fun e => hgz (Option.some.inj e)), h.2.2.2.1.grown hg (fun e => hgr (Option.some.inj e)), row_grown h.2.2.2.2 hl hg (fun _ _ _ h1 => src_not h.1 h1)⟩
theorem Dr.bl {w0 w w' : World} {g z r : Nat} {a : Option Addr} {cap : Nat} {lc : List UInt8} {l : List Pt} {a2 : Option Addr} {cap2 p s : Nat} (h : Dr w0 g z r a cap lc l a2 cap2 p s w) (hb : Below w.heap.size w w') : Dr w0 g z r a cap lc l a2 cap2 p s w' :=
 ⟨ArrAt.below h.1 hb (ArrAt.lt h.1), World.grownBy.trans' h.2.1 (below_grown hb _), h.2.2.1.below hb, h.2.2.2.1.below hb, h.2.2.2.2.below hb⟩
theorem Dr.drew {w0 w : World} {g z r : Nat} {a : Option Addr} {cap : Nat} {lc : List UInt8} {l : List Pt} {a2 : Option Addr} {cap2 p s : Nat} (h : Dr w0 g z r a cap lc l a2 cap2 p s w) : Dr w0 g z r a cap lc l a2 cap2 p s w.drew := h.bl ((Below.refl w.heap.size w).drew)
theorem Dr.put {w0 w : World} {g z r : Nat} {a : Option Addr} {cap : Nat} {lc : List UInt8} {l l3 : List Pt} {a2 a3 : Option Addr} {cap2 cap3 p s : Nat} (h : Dr w0 g z r a cap lc l a2 cap2 p s w) (hr : RowV w a3 (cPt l3)) (hz0 : w0.heap.size ≤ z) (hgz : g ≠ z) (hrz : z ≠ r) (hl3 : 0 < l3.length) : Dr w0 g z r a cap lc l3 a3 cap3 p s (w.setCell ⟨z, 0, none⟩ (.slice a3 l3.length cap3)) := by
 refine ⟨ArrAt.other h.1 hgz 0 _, grown_set h.2.1 hz0 0 _, h.2.2.1.set 0 (by simp) _, h.2.2.2.1.far _ _ hrz, ?_⟩
 obtain ⟨b, off, e, hlt, hc, -, h1⟩ := row_off hr hl3
 have hne := bf_not h.2.2.1 h1
 refine .inr ⟨b, off, e, by rw [World.size_setCell]; exact hlt, fun i u hu => ?_⟩
 rw [World.cell?_setCell_other _ _ _ _ (by intro h2; injection h2 with h3; exact hne h3.symm)]
 exact hc i u hu
set_option maxHeartbeats 4000000 in
set_option maxRecDepth 100000 in
theorem slayoutD (g : Nat) (a : Option Addr) (cap : Nat) (lc : List UInt8) (p s : Nat) (hl : lc.length ≤ 1048600) (hp : p ≤ 900000) (hs : s < 2147483648) (W H : Int) (HSZ : Hid (sizeB W H = true)) (w : World) (h : SrcAt w g a cap lc p s) (hr : Row8 w a lc) (hg : ApartOf a lc g) :
  Calls Tryd.prog 14 #[.pointer (some ⟨g, 0, none⟩), .int .i64 W, .int .i64 H] w fun e w' => ∃ (l : List Pt) (t : Tr) (a2 : Option Addr) (cap2 : Nat), e = .returned (.agg #[.slice a2 l.length cap2]) ∧ tofS l W H = some t ∧ (∀ m ∈ t.panes, m ≤ 6) ∧ w'.ownsRow w.heap.size 53 5 (.slice a2 l.length cap2) l.length (cPt l) ∧ w.grownBy w' (some g) := by
 have hgw : g < w.heap.size := ArrAt.lt h
 have HR := hide hr
 have HGN := hide hg
 have B0 := hide (Go.Joins.below_alloc1 w (.cells #[.slice none 0 0] 26))
 have R0 := hide (BF.new w #[.slice none 0 0] 26)
 have S0 := hide (ArrAt.alloc h (.cells #[.slice none 0 0] 26))
 have HS0 := hide hs
 clear h hr hg hs
 go_enter Tryd.func14, Tryd.ntmps14
 go_wp2_with fail
 refine (sl05one 1 _).mono ?_
 rintro e w1 ⟨g1, rfl, ho1, hb1⟩
 obtain ⟨z, hz⟩ : ∃ z, z = w1.heap.size := ⟨_, rfl⟩
 have R1 := hide ((unhide R0).below hb1)
 have S1 := hide (ArrAt.below (unhide S0) hb1 (by simp; omega))
 have hwz : w.heap.size < z := by rw [hz]; exact (unhide R1).lt
 have G1 := hide (World.grownBy.trans' (below_grown (unhide B0) (some g)) (below_grown hb1 (some g)))
 have DP : Hid (Dr w g z w.heap.size a cap lc [⟨1, false, 0, -1, -1⟩] (some ⟨g1, 0, none⟩) 1 p s (w1.alloc (.cells #[.slice (some ⟨g1, 0, none⟩) 1 1] 26))) := by
  show Dr _ _ _ _ _ _ _ _ _ _ _ _ _
  refine ⟨ArrAt.alloc (unhide S1) _, World.grownBy.trans' (unhide G1) (below_grown (Go.Joins.below_alloc1 w1 _) _), ?_, (unhide R1).alloc _, (rowZ_at ho1).below (Go.Joins.below_alloc1 w1 _)⟩
  rw [hz]; exact BF.new w1 #[.slice (some ⟨g1, 0, none⟩) 1 1] 26
 have HT0 : Hid (∃ t, tofS [⟨1, false, 0, -1, -1⟩] W H = some t ∧ ∀ m ∈ t.panes, m ≤ 6) := ⟨_, one_ok (unhide HSZ), fun m h => by obtain rfl := List.mem_singleton.1 h; decide⟩
 clear ho1 hb1 B0 R0 S0 R1 S1 G1
 go_wp2_with fail
 rw [← hz]
 have hgz : g ≠ z := by omega
 have hgr : g ≠ w.heap.size := by omega
 have hzr : z ≠ w.heap.size := by omega
 have hz0 : w.heap.size ≤ z := by omega
 clear hz
 generalize w1.alloc (.cells #[.slice (some ⟨g1, 0, none⟩) 1 1] 26) = w2 at DP ⊢
 refine (snextI 7 g a cap lc p s (by decide) (by decide) hl (by omega) (unhide HS0) w2 (unhide DP).1 ((unhide HR).grown (unhide DP).2.1 (unhide HGN)) (unhide HGN)).mono ?_
 rintro e w3 ⟨x, s1, rfl, hx, hs1, hA, hG⟩
 have D3 := hide ((unhide DP).nx hG hA hgz hgr (by decide))
 have Q3 := hide hs1
 clear hA hG hs1 DP HS0
 go_wp2_with fail
 go_loopw [8] (fun i wr => ∃ (k p1 s1 : Nat) (l : List Pt) (a2 : Option Addr) (cap2 : Nat), i = .int .i64 k ∧ k ≤ 6 ∧ p1 + 5 * k ≤ p + 40 ∧ Hid (s1 < 2147483648) ∧ Hid (Dr w g z w.heap.size a cap lc l a2 cap2 p1 s1 wr) ∧ Hid (∃ t, tofS l W H = some t ∧ ∀ m ∈ t.panes, m ≤ 6)) (fun i _ => (intOf i).toNat)
 case atStart => exact ⟨x.toNat, p + 1, s1, _, _, 1, (by rw [Int.toNat_of_nonneg hx.1]), by omega, by omega, Q3, D3, HT0⟩
 case round =>
  clear Q3 D3 HT0
  obtain ⟨k, p1, s0, l, a2, cap2, rfl, hk, hp1, Q0, D0, HT⟩ := hrel
  obtain ⟨t, ht, ht6⟩ := unhide HT
  have HT6 := hide ht6
  clear ht6
  have hl0 := tofS_pos ht
  have HT1 := hide ht
  clear ht HT
  by_cases h0 : 0 < k
  ·have h0' : 0 < (k : Int) := by omega
   go_wp2_with fail
   refine (snextI 5 g a cap lc p1 s0 (by decide) (by decide) hl (by omega) (unhide Q0) wr (unhide D0).1 ((unhide HR).grown (unhide D0).2.1 (unhide HGN)) (unhide HGN)).mono ?_
   rintro e w1p ⟨x5, s1, rfl, hx5, hs1, hA, hG⟩
   have D1 := hide ((unhide D0).nx hG hA hgz hgr hl0)
   have Q1 := hide hs1
   clear hA hG hs1 D0 Q0
   by_cases h5 : x5 = 0
   ·subst h5
    go_wp2_with fail
    refine wp_region_held_drew (S := fun _ => True) (by kernel_rfl) trivial (fun hHeld => ?_)
    have D1q := hide (unhide D1).drew
    clear D1
    generalize w1p.drew = w1 at D1q hHeld ⊢
    have D1 := D1q
    clear D1q
    refine wtv 1 (oi := { dst := some 37, op := .move (.tmp 1), type := 3, pos := "l05_layout.go:336", after := #[], guard := none }) ?_
    refine wtv 2 (oi := { dst := some 38, op := .move (.tmp 2), type := 3, pos := "l05_layout.go:336", after := #[], guard := none }) ?_
    refine wtv 3 (oi := { dst := some 39, op := .move (.tmp 0), type := 40, pos := "l05_layout.go:336", after := #[], guard := none }) ?_
    refine wpAnyH_ready (rs := [0, 4]) (by kernel_rfl) (by simp) ?_
    refine AllReadyH.cons (o := oSrcL0) rfl (fun K hK => ?_) (AllReadyH.cons (o := oSrcL1) rfl (fun K hK => ?_) AllReadyH.nil)
    ·have kz := (unhide D1).2.2.1.S
     go_simp
     refine hK.out _ _ ?_ (fun hHeld0 => ?_)
     ·trivial
     clear hK K
     try simp only [Act.put, qqA, qqB, qqC]
     clear kz
     refine wpAnyH_ready (rs := [4]) (by kernel_rfl) (by simp) ?_
     refine AllReadyH.cons (o := oSrcL1) rfl (fun K hK => ?_) AllReadyH.nil
     go_simp
     refine (snextI 6 g a cap lc (p1 + 1) s1 (by decide) (by decide) hl (by omega) (unhide Q1) w1 (unhide D1).1 ((unhide HR).grown (unhide D1).2.1 (unhide HGN)) (unhide HGN)).mono ?_
     rintro e w2 ⟨y, s2, rfl, hy, hs2, hA, hG⟩
     have D2 := hide ((unhide D1).nx hG hA hgz hgr hl0)
     have Q2 := hide hs2
     clear hA hG hs2 D1 Q1
     go_wp2_with fail
     refine hK.out _ _ ?_ (fun hHeld4 => ?_)
     ·trivial
     clear hK K
     try simp only [Act.put, qqA, qqB, qqC]
     refine wtv 5 (oi := oSrcL2) ?_
     rw [show IntKind.i64.wrap (1 + y) = 1 + y from wrapi _ (by omega) (by omega)]
     obtain ⟨l3, e3⟩ : ∃ x, x = killL l W H (1 + y) := ⟨_, rfl⟩
     have HL3 := hide e3
     obtain ⟨t3, ht3, hm3⟩ : ∃ t3, tofS l3 W H = some t3 ∧ ∀ m ∈ t3.panes, m ≤ 6 := by
      rw [e3]
      obtain ⟨t3, h3, hm⟩ := kill_keeps (unhide HT1) (1 + y)
      exact ⟨t3, h3, fun m h => unhide HT6 m (hm m h)⟩
     have HE3 : Hid (∃ t3, tofS l3 W H = some t3 ∧ ∀ m ∈ t3.panes, m ≤ 6) := ⟨t3, ht3, hm3⟩
     have hl3 := tofS_pos ht3
     clear ht3 e3 hm3
     refine wpAnyH_ready (rs := [6]) (by kernel_rfl) (by simp) ?_
     refine AllReadyH.cons (o := oSrcL3) rfl (fun K hK => ?_) AllReadyH.nil
     go_simp
     refine (skillin a2 cap2 l.length l rfl t (unhide HT1) 0 0 (1 + y) (killC l W H (1 + y)) l3 rfl HL3 w2 (unhide D2).2.2.2.2).mono ?_
     rintro e w9 ⟨a3, cap3, rfl, hr3, hb3⟩
     have D9 := hide ((unhide D2).bl hb3)
     have R9 := hide hr3
     clear hr3 hb3 D2
     go_wp2_with fail
     refine hK.out _ _ ?_ (fun hHeld6 => ?_)
     ·trivial
     clear hK K
     try simp only [Act.put, qqA, qqB, qqC]
     refine wtv 7 (oi := oSrcL4) ?_
     refine wtv 8 (oi := oSrcL5) ?_
     refine wtv 9 (oi := oSrcL6) ?_
     refine wpAnyH_ready (rs := [10]) (by kernel_rfl) (by simp) ?_
     refine AllReadyH.cons (o := oSrcL7) rfl (fun K hK => ?_) AllReadyH.nil
     have kz := (unhide D9).2.2.1.S
     have kf := (unhide D9).2.2.1.F
     go_simp
     refine hK.out _ _ ?_ (fun hHeld10 => ?_)
     ·trivial
     clear hK K
     try simp only [Act.put, qqA, qqB, qqC]
     clear kz kf
     refine wpAnyH_done (by kernel_rfl) ?_ _
     have DX := hide ((unhide D9).put (cap3 := cap3) (unhide R9) hz0 hgz hzr hl3)
     clear D9 R9
     go_wp2_with fail
     go_roundw
     case rel => exact ⟨k - 1, p1 + 2, s2, l3, a3, cap3, by go_num, by omega, by omega, Q2, DX, unhide HE3⟩
     case measure => simp [intOf]; omega
    ·go_simp
     refine (snextI 6 g a cap lc (p1 + 1) s1 (by decide) (by decide) hl (by omega) (unhide Q1) w1 (unhide D1).1 ((unhide HR).grown (unhide D1).2.1 (unhide HGN)) (unhide HGN)).mono ?_
     rintro e w2 ⟨y, s2, rfl, hy, hs2, hA, hG⟩
     have D2 := hide ((unhide D1).nx hG hA hgz hgr hl0)
     have Q2 := hide hs2
     clear hA hG hs2 D1 Q1
     go_wp2_with fail
     refine hK.out _ _ ?_ (fun hHeld4 => ?_)
     ·trivial
     clear hK K
     try simp only [Act.put, qqA, qqB, qqC]
     refine wtv 5 (oi := oSrcL2) ?_
     rw [show IntKind.i64.wrap (1 + y) = 1 + y from wrapi _ (by omega) (by omega)]
     refine wpAnyH_ready (rs := [0]) (by kernel_rfl) (by simp) ?_
     refine AllReadyH.cons (o := oSrcL0) rfl (fun K hK => ?_) AllReadyH.nil
     have kz := (unhide D2).2.2.1.S
     go_simp
     refine hK.out _ _ ?_ (fun hHeld0 => ?_)
     ·trivial
     clear hK K
     try simp only [Act.put, qqA, qqB, qqC]
     clear kz
     obtain ⟨l3, e3⟩ : ∃ x, x = killL l W H (1 + y) := ⟨_, rfl⟩
     have HL3 := hide e3
     obtain ⟨t3, ht3, hm3⟩ : ∃ t3, tofS l3 W H = some t3 ∧ ∀ m ∈ t3.panes, m ≤ 6 := by
      rw [e3]
      obtain ⟨t3, h3, hm⟩ := kill_keeps (unhide HT1) (1 + y)
      exact ⟨t3, h3, fun m h => unhide HT6 m (hm m h)⟩
     have HE3 : Hid (∃ t3, tofS l3 W H = some t3 ∧ ∀ m ∈ t3.panes, m ≤ 6) := ⟨t3, ht3, hm3⟩
     have hl3 := tofS_pos ht3
     clear ht3 e3 hm3
     refine wpAnyH_ready (rs := [6]) (by kernel_rfl) (by simp) ?_
     refine AllReadyH.cons (o := oSrcL3) rfl (fun K hK => ?_) AllReadyH.nil
     go_simp
     refine (skillin a2 cap2 l.length l rfl t (unhide HT1) 0 0 (1 + y) (killC l W H (1 + y)) l3 rfl HL3 w2 (unhide D2).2.2.2.2).mono ?_
     rintro e w9 ⟨a3, cap3, rfl, hr3, hb3⟩
     have D9 := hide ((unhide D2).bl hb3)
     have R9 := hide hr3
     clear hr3 hb3 D2
     go_wp2_with fail
     refine hK.out _ _ ?_ (fun hHeld6 => ?_)
     ·trivial
     clear hK K
     try simp only [Act.put, qqA, qqB, qqC]
     refine wtv 7 (oi := oSrcL4) ?_
     refine wtv 8 (oi := oSrcL5) ?_
     refine wtv 9 (oi := oSrcL6) ?_
     refine wpAnyH_ready (rs := [10]) (by kernel_rfl) (by simp) ?_
     refine AllReadyH.cons (o := oSrcL7) rfl (fun K hK => ?_) AllReadyH.nil
     have kz := (unhide D9).2.2.1.S
     have kf := (unhide D9).2.2.1.F
     go_simp
     refine hK.out _ _ ?_ (fun hHeld10 => ?_)
     ·trivial
     clear hK K
     try simp only [Act.put, qqA, qqB, qqC]
     clear kz kf
     refine wpAnyH_done (by kernel_rfl) ?_ _
     have DX := hide ((unhide D9).put (cap3 := cap3) (unhide R9) hz0 hgz hzr hl3)
     clear D9 R9
     go_wp2_with fail
     go_roundw
     case rel => exact ⟨k - 1, p1 + 2, s2, l3, a3, cap3, by go_num, by omega, by omega, Q2, DX, unhide HE3⟩
     case measure => simp [intOf]; omega
   have h5b : (x5 == 0) = false := beq_eq_false_iff_ne.2 h5
   by_cases h6 : x5 = 1
   ·subst h6
    go_wp2_with fail
    refine wp_region_held_drew (S := fun _ => True) (by kernel_rfl) trivial (fun hHeld => ?_)
    have D1q := hide (unhide D1).drew
    clear D1
    generalize w1p.drew = w1 at D1q hHeld ⊢
    have D1 := D1q
    clear D1q
    refine wtv 1 (oi := { dst := some 49, op := .move (.tmp 1), type := 3, pos := "l05_layout.go:338", after := #[], guard := none }) ?_
    refine wtv 2 (oi := { dst := some 50, op := .move (.tmp 2), type := 3, pos := "l05_layout.go:338", after := #[], guard := none }) ?_
    refine wtv 3 (oi := { dst := some 51, op := .move (.tmp 0), type := 40, pos := "l05_layout.go:338", after := #[], guard := none }) ?_
    refine wtv 6 (oi := { dst := some 54, op := .move (.tmp 0), type := 40, pos := "l05_layout.go:338", after := #[], guard := none }) ?_
    refine wpAnyH_ready (rs := [0, 4]) (by kernel_rfl) (by simp) ?_
    refine AllReadyH.cons (o := oSrcL8) rfl (fun K hK => ?_) (AllReadyH.cons (o := oSrcL9) rfl (fun K hK => ?_) AllReadyH.nil)
    ·have kz := (unhide D1).2.2.1.S
     go_simp
     refine hK.out _ _ ?_ (fun hHeld0 => ?_)
     ·trivial
     clear hK K
     try simp only [Act.put, qqA, qqB, qqC]
     clear kz
     refine wpAnyH_ready (rs := [4]) (by kernel_rfl) (by simp) ?_
     refine AllReadyH.cons (o := oSrcL9) rfl (fun K hK => ?_) AllReadyH.nil
     go_simp
     refine (snextI 6 g a cap lc (p1 + 1) s1 (by decide) (by decide) hl (by omega) (unhide Q1) w1 (unhide D1).1 ((unhide HR).grown (unhide D1).2.1 (unhide HGN)) (unhide HGN)).mono ?_
     rintro e w2 ⟨y, s2, rfl, hy, hs2, hA, hG⟩
     have D2 := hide ((unhide D1).nx hG hA hgz hgr hl0)
     have Q2 := hide hs2
     clear hA hG hs2 D1 Q1
     go_wp2_with fail
     refine hK.out _ _ ?_ (fun hHeld4 => ?_)
     ·trivial
     clear hK K
     try simp only [Act.put, qqA, qqB, qqC]
     refine wtv 5 (oi := oSrcL10) ?_
     rw [show IntKind.i64.wrap (1 + y) = 1 + y from wrapi _ (by omega) (by omega)]
     refine wpAnyH_ready (rs := [7]) (by kernel_rfl) (by simp) ?_
     refine AllReadyH.cons (o := oSrcL11) rfl (fun K hK => ?_) AllReadyH.nil
     go_simp
     refine (snextI 9 g a cap lc (p1 + 2) s2 (by decide) (by decide) hl (by omega) (unhide Q2) w2 (unhide D2).1 ((unhide HR).grown (unhide D2).2.1 (unhide HGN)) (unhide HGN)).mono ?_
     rintro e w3 ⟨z2, s3, rfl, hz2, hs3, hA, hG⟩
     have D3 := hide ((unhide D2).nx hG hA hgz hgr hl0)
     have Q3 := hide hs3
     clear hA hG hs3 D2 Q2
     go_wp2_with fail
     refine hK.out _ _ ?_ (fun hHeld7 => ?_)
     ·trivial
     clear hK K
     try simp only [Act.put, qqA, qqB, qqC]
     refine wtv 8 (oi := oSrcL12) ?_
     rw [show IntKind.i64.wrap (z2 - 4) = z2 - 4 from wrapi _ (by omega) (by omega)]
     obtain ⟨l3, e3⟩ : ∃ x, x = moveL l W H (1 + y) (z2 - 4) := ⟨_, rfl⟩
     have HL3 := hide e3
     obtain ⟨t3, ht3, hm3⟩ : ∃ t3, tofS l3 W H = some t3 ∧ ∀ m ∈ t3.panes, m ≤ 6 := by
      rw [e3]
      obtain ⟨t3, h3, hm⟩ := move_keeps (unhide HT1) (1 + y) (z2 - 4) (decide_eq_true ⟨by omega, by omega⟩)
      exact ⟨t3, h3, fun m h => unhide HT6 m (hm ▸ h)⟩
     have HE3 : Hid (∃ t3, tofS l3 W H = some t3 ∧ ∀ m ∈ t3.panes, m ≤ 6) := ⟨t3, ht3, hm3⟩
     have hl3 := tofS_pos ht3
     clear ht3 e3 hm3
     refine wpAnyH_ready (rs := [9]) (by kernel_rfl) (by simp) ?_
     refine AllReadyH.cons (o := oSrcL13) rfl (fun K hK => ?_) AllReadyH.nil
     go_simp
     refine (smovein a2 cap2 l.length l rfl t (unhide HT1) 0 0 (1 + y) (z2 - 4) (moveC l W H (1 + y) (z2 - 4)) l3 (decide_eq_true ⟨by omega, by omega⟩) rfl HL3 w3 (unhide D3).2.2.2.2).mono ?_
     rintro e w9 ⟨a3, cap3, rfl, hr3, hb3⟩
     have D9 := hide ((unhide D3).bl hb3)
     have R9 := hide hr3
     clear hr3 hb3 D3
     go_wp2_with fail
     refine hK.out _ _ ?_ (fun hHeld9 => ?_)
     ·trivial
     clear hK K
     try simp only [Act.put, qqA, qqB, qqC]
     refine wtv 10 (oi := oSrcL14) ?_
     refine wtv 11 (oi := oSrcL15) ?_
     refine wtv 12 (oi := oSrcL16) ?_
     refine wpAnyH_ready (rs := [13]) (by kernel_rfl) (by simp) ?_
     refine AllReadyH.cons (o := oSrcL17) rfl (fun K hK => ?_) AllReadyH.nil
     have kz := (unhide D9).2.2.1.S
     have kf := (unhide D9).2.2.1.F
     go_simp
     refine hK.out _ _ ?_ (fun hHeld13 => ?_)
     ·trivial
     clear hK K
     try simp only [Act.put, qqA, qqB, qqC]
     clear kz kf
     refine wpAnyH_done (by kernel_rfl) ?_ _
     have DX := hide ((unhide D9).put (cap3 := cap3) (unhide R9) hz0 hgz hzr hl3)
     clear D9 R9
     go_wp2_with fail
     go_roundw
     case rel => exact ⟨k - 1, p1 + 3, s3, l3, a3, cap3, by go_num, by omega, by omega, Q3, DX, unhide HE3⟩
     case measure => simp [intOf]; omega
    ·go_simp
     refine (snextI 6 g a cap lc (p1 + 1) s1 (by decide) (by decide) hl (by omega) (unhide Q1) w1 (unhide D1).1 ((unhide HR).grown (unhide D1).2.1 (unhide HGN)) (unhide HGN)).mono ?_
     rintro e w2 ⟨y, s2, rfl, hy, hs2, hA, hG⟩
     have D2 := hide ((unhide D1).nx hG hA hgz hgr hl0)
     have Q2 := hide hs2
     clear hA hG hs2 D1 Q1
     go_wp2_with fail
     refine hK.out _ _ ?_ (fun hHeld4 => ?_)
     ·trivial
     clear hK K
     try simp only [Act.put, qqA, qqB, qqC]
     refine wtv 5 (oi := oSrcL10) ?_
     rw [show IntKind.i64.wrap (1 + y) = 1 + y from wrapi _ (by omega) (by omega)]
     refine wpAnyH_ready (rs := [0, 7]) (by kernel_rfl) (by simp) ?_
     refine AllReadyH.cons (o := oSrcL8) rfl (fun K hK => ?_) (AllReadyH.cons (o := oSrcL11) rfl (fun K hK => ?_) AllReadyH.nil)
     ·have kz := (unhide D2).2.2.1.S
      go_simp
      refine hK.out _ _ ?_ (fun hHeld0 => ?_)
      ·trivial
      clear hK K
      try simp only [Act.put, qqA, qqB, qqC]
      clear kz
      refine wpAnyH_ready (rs := [7]) (by kernel_rfl) (by simp) ?_
      refine AllReadyH.cons (o := oSrcL11) rfl (fun K hK => ?_) AllReadyH.nil
      go_simp
      refine (snextI 9 g a cap lc (p1 + 2) s2 (by decide) (by decide) hl (by omega) (unhide Q2) w2 (unhide D2).1 ((unhide HR).grown (unhide D2).2.1 (unhide HGN)) (unhide HGN)).mono ?_
      rintro e w3 ⟨z2, s3, rfl, hz2, hs3, hA, hG⟩
      have D3 := hide ((unhide D2).nx hG hA hgz hgr hl0)
      have Q3 := hide hs3
      clear hA hG hs3 D2 Q2
      go_wp2_with fail
      refine hK.out _ _ ?_ (fun hHeld7 => ?_)
      ·trivial
      clear hK K
      try simp only [Act.put, qqA, qqB, qqC]
      refine wtv 8 (oi := oSrcL12) ?_
      rw [show IntKind.i64.wrap (z2 - 4) = z2 - 4 from wrapi _ (by omega) (by omega)]
      obtain ⟨l3, e3⟩ : ∃ x, x = moveL l W H (1 + y) (z2 - 4) := ⟨_, rfl⟩
      have HL3 := hide e3
      obtain ⟨t3, ht3, hm3⟩ : ∃ t3, tofS l3 W H = some t3 ∧ ∀ m ∈ t3.panes, m ≤ 6 := by
       rw [e3]
       obtain ⟨t3, h3, hm⟩ := move_keeps (unhide HT1) (1 + y) (z2 - 4) (decide_eq_true ⟨by omega, by omega⟩)
       exact ⟨t3, h3, fun m h => unhide HT6 m (hm ▸ h)⟩
      have HE3 : Hid (∃ t3, tofS l3 W H = some t3 ∧ ∀ m ∈ t3.panes, m ≤ 6) := ⟨t3, ht3, hm3⟩
      have hl3 := tofS_pos ht3
      clear ht3 e3 hm3
      refine wpAnyH_ready (rs := [9]) (by kernel_rfl) (by simp) ?_
      refine AllReadyH.cons (o := oSrcL13) rfl (fun K hK => ?_) AllReadyH.nil
      go_simp
      refine (smovein a2 cap2 l.length l rfl t (unhide HT1) 0 0 (1 + y) (z2 - 4) (moveC l W H (1 + y) (z2 - 4)) l3 (decide_eq_true ⟨by omega, by omega⟩) rfl HL3 w3 (unhide D3).2.2.2.2).mono ?_
      rintro e w9 ⟨a3, cap3, rfl, hr3, hb3⟩
      have D9 := hide ((unhide D3).bl hb3)
      have R9 := hide hr3
      clear hr3 hb3 D3
      go_wp2_with fail
      refine hK.out _ _ ?_ (fun hHeld9 => ?_)
      ·trivial
      clear hK K
      try simp only [Act.put, qqA, qqB, qqC]
      refine wtv 10 (oi := oSrcL14) ?_
      refine wtv 11 (oi := oSrcL15) ?_
      refine wtv 12 (oi := oSrcL16) ?_
      refine wpAnyH_ready (rs := [13]) (by kernel_rfl) (by simp) ?_
      refine AllReadyH.cons (o := oSrcL17) rfl (fun K hK => ?_) AllReadyH.nil
      have kz := (unhide D9).2.2.1.S
      have kf := (unhide D9).2.2.1.F
      go_simp
      refine hK.out _ _ ?_ (fun hHeld13 => ?_)
      ·trivial
      clear hK K
      try simp only [Act.put, qqA, qqB, qqC]
      clear kz kf
      refine wpAnyH_done (by kernel_rfl) ?_ _
      have DX := hide ((unhide D9).put (cap3 := cap3) (unhide R9) hz0 hgz hzr hl3)
      clear D9 R9
      go_wp2_with fail
      go_roundw
      case rel => exact ⟨k - 1, p1 + 3, s3, l3, a3, cap3, by go_num, by omega, by omega, Q3, DX, unhide HE3⟩
      case measure => simp [intOf]; omega
     ·go_simp
      refine (snextI 9 g a cap lc (p1 + 2) s2 (by decide) (by decide) hl (by omega) (unhide Q2) w2 (unhide D2).1 ((unhide HR).grown (unhide D2).2.1 (unhide HGN)) (unhide HGN)).mono ?_
      rintro e w3 ⟨z2, s3, rfl, hz2, hs3, hA, hG⟩
      have D3 := hide ((unhide D2).nx hG hA hgz hgr hl0)
      have Q3 := hide hs3
      clear hA hG hs3 D2 Q2
      go_wp2_with fail
      refine hK.out _ _ ?_ (fun hHeld7 => ?_)
      ·trivial
      clear hK K
      try simp only [Act.put, qqA, qqB, qqC]
      refine wtv 8 (oi := oSrcL12) ?_
      rw [show IntKind.i64.wrap (z2 - 4) = z2 - 4 from wrapi _ (by omega) (by omega)]
      refine wpAnyH_ready (rs := [0]) (by kernel_rfl) (by simp) ?_
      refine AllReadyH.cons (o := oSrcL8) rfl (fun K hK => ?_) AllReadyH.nil
      have kz := (unhide D3).2.2.1.S
      go_simp
      refine hK.out _ _ ?_ (fun hHeld0 => ?_)
      ·trivial
      clear hK K
      try simp only [Act.put, qqA, qqB, qqC]
      clear kz
      obtain ⟨l3, e3⟩ : ∃ x, x = moveL l W H (1 + y) (z2 - 4) := ⟨_, rfl⟩
      have HL3 := hide e3
      obtain ⟨t3, ht3, hm3⟩ : ∃ t3, tofS l3 W H = some t3 ∧ ∀ m ∈ t3.panes, m ≤ 6 := by
       rw [e3]
       obtain ⟨t3, h3, hm⟩ := move_keeps (unhide HT1) (1 + y) (z2 - 4) (decide_eq_true ⟨by omega, by omega⟩)
       exact ⟨t3, h3, fun m h => unhide HT6 m (hm ▸ h)⟩
      have HE3 : Hid (∃ t3, tofS l3 W H = some t3 ∧ ∀ m ∈ t3.panes, m ≤ 6) := ⟨t3, ht3, hm3⟩
      have hl3 := tofS_pos ht3
      clear ht3 e3 hm3
      refine wpAnyH_ready (rs := [9]) (by kernel_rfl) (by simp) ?_
      refine AllReadyH.cons (o := oSrcL13) rfl (fun K hK => ?_) AllReadyH.nil
      go_simp
      refine (smovein a2 cap2 l.length l rfl t (unhide HT1) 0 0 (1 + y) (z2 - 4) (moveC l W H (1 + y) (z2 - 4)) l3 (decide_eq_true ⟨by omega, by omega⟩) rfl HL3 w3 (unhide D3).2.2.2.2).mono ?_
      rintro e w9 ⟨a3, cap3, rfl, hr3, hb3⟩
      have D9 := hide ((unhide D3).bl hb3)
      have R9 := hide hr3
      clear hr3 hb3 D3
      go_wp2_with fail
      refine hK.out _ _ ?_ (fun hHeld9 => ?_)
      ·trivial
      clear hK K
      try simp only [Act.put, qqA, qqB, qqC]
      refine wtv 10 (oi := oSrcL14) ?_
      refine wtv 11 (oi := oSrcL15) ?_
      refine wtv 12 (oi := oSrcL16) ?_
      refine wpAnyH_ready (rs := [13]) (by kernel_rfl) (by simp) ?_
      refine AllReadyH.cons (o := oSrcL17) rfl (fun K hK => ?_) AllReadyH.nil
      have kz := (unhide D9).2.2.1.S
      have kf := (unhide D9).2.2.1.F
      go_simp
      refine hK.out _ _ ?_ (fun hHeld13 => ?_)
      ·trivial
      clear hK K
      try simp only [Act.put, qqA, qqB, qqC]
      clear kz kf
      refine wpAnyH_done (by kernel_rfl) ?_ _
      have DX := hide ((unhide D9).put (cap3 := cap3) (unhide R9) hz0 hgz hzr hl3)
      clear D9 R9
      go_wp2_with fail
      go_roundw
      case rel => exact ⟨k - 1, p1 + 3, s3, l3, a3, cap3, by go_num, by omega, by omega, Q3, DX, unhide HE3⟩
      case measure => simp [intOf]; omega
   have h6b : (x5 == 1) = false := beq_eq_false_iff_ne.2 h6
   go_wp2_with fail
   refine wp_region_held_drew (S := fun _ => True) (by kernel_rfl) trivial (fun hHeld => ?_)
   have D1q := hide (unhide D1).drew
   clear D1
   generalize w1p.drew = w1 at D1q hHeld ⊢
   have D1 := D1q
   clear D1q
   refine wtv 1 (oi := { dst := some 20, op := .move (.tmp 1), type := 3, pos := "l05_layout.go:340", after := #[], guard := none }) ?_
   refine wtv 2 (oi := { dst := some 21, op := .move (.tmp 2), type := 3, pos := "l05_layout.go:340", after := #[], guard := none }) ?_
   refine wtv 3 (oi := { dst := some 22, op := .move (.tmp 0), type := 40, pos := "l05_layout.go:340", after := #[], guard := none }) ?_
   refine wtv 6 (oi := { dst := some 25, op := .move (.tmp 0), type := 40, pos := "l05_layout.go:340", after := #[], guard := none }) ?_
   refine wtv 9 (oi := { dst := some 28, op := .move (.tmp 0), type := 40, pos := "l05_layout.go:340", after := #[], guard := none }) ?_
   refine wpAnyH_ready (rs := [0, 4]) (by kernel_rfl) (by simp) ?_
   refine AllReadyH.cons (o := oSrcL18) rfl (fun K hK => ?_) (AllReadyH.cons (o := oSrcL19) rfl (fun K hK => ?_) AllReadyH.nil)
   ·have kz := (unhide D1).2.2.1.S
    go_simp
    refine hK.out _ _ ?_ (fun hHeld0 => ?_)
    ·trivial
    clear hK K
    try simp only [Act.put, qqA, qqB, qqC]
    clear kz
    refine wpAnyH_ready (rs := [4]) (by kernel_rfl) (by simp) ?_
    refine AllReadyH.cons (o := oSrcL19) rfl (fun K hK => ?_) AllReadyH.nil
    go_simp
    refine (snextI 6 g a cap lc (p1 + 1) s1 (by decide) (by decide) hl (by omega) (unhide Q1) w1 (unhide D1).1 ((unhide HR).grown (unhide D1).2.1 (unhide HGN)) (unhide HGN)).mono ?_
    rintro e w2 ⟨y, s2, rfl, hy, hs2, hA, hG⟩
    have D2 := hide ((unhide D1).nx hG hA hgz hgr hl0)
    have Q2 := hide hs2
    clear hA hG hs2 D1 Q1
    go_wp2_with fail
    refine hK.out _ _ ?_ (fun hHeld4 => ?_)
    ·trivial
    clear hK K
    try simp only [Act.put, qqA, qqB, qqC]
    refine wtv 5 (oi := oSrcL20) ?_
    rw [show IntKind.i64.wrap (1 + y) = 1 + y from wrapi _ (by omega) (by omega)]
    refine wpAnyH_ready (rs := [7]) (by kernel_rfl) (by simp) ?_
    refine AllReadyH.cons (o := oSrcL21) rfl (fun K hK => ?_) AllReadyH.nil
    go_simp
    refine (snextI 6 g a cap lc (p1 + 2) s2 (by decide) (by decide) hl (by omega) (unhide Q2) w2 (unhide D2).1 ((unhide HR).grown (unhide D2).2.1 (unhide HGN)) (unhide HGN)).mono ?_
    rintro e w3 ⟨z2, s3, rfl, hz2, hs3, hA, hG⟩
    have D3 := hide ((unhide D2).nx hG hA hgz hgr hl0)
    have Q3 := hide hs3
    clear hA hG hs3 D2 Q2
    go_wp2_with fail
    refine hK.out _ _ ?_ (fun hHeld7 => ?_)
    ·trivial
    clear hK K
    try simp only [Act.put, qqA, qqB, qqC]
    refine wtv 8 (oi := oSrcL22) ?_
    rw [show IntKind.i64.wrap (1 + z2) = 1 + z2 from wrapi _ (by omega) (by omega)]
    refine wpAnyH_ready (rs := [10]) (by kernel_rfl) (by simp) ?_
    refine AllReadyH.cons (o := oSrcL23) rfl (fun K hK => ?_) AllReadyH.nil
    go_simp
    refine (schance 2 g a cap lc (p1 + 3) s3 (by decide) (by decide) hl (by omega) (unhide Q3) w3 (unhide D3).1 ((unhide HR).grown (unhide D3).2.1 (unhide HGN)) (unhide HGN)).mono ?_
    rintro e w4 ⟨b, s4, rfl, hs4, hA, hG⟩
    have D4 := hide ((unhide D3).nx hG hA hgz hgr hl0)
    have Q4 := hide hs4
    clear hA hG hs4 D3 Q3
    go_wp2_with fail
    refine hK.out _ _ ?_ (fun hHeld10 => ?_)
    ·trivial
    clear hK K
    try simp only [Act.put, qqA, qqB, qqC]
    obtain ⟨l3, e3⟩ : ∃ x, x = splitL l W H (1 + y) (1 + z2) b := ⟨_, rfl⟩
    have HL3 := hide e3
    obtain ⟨t3, ht3, hm3⟩ : ∃ t3, tofS l3 W H = some t3 ∧ ∀ m ∈ t3.panes, m ≤ 6 := by
     rw [e3]
     obtain ⟨t3, h3, hm⟩ := split_keeps (unhide HT1) (1 + y) (1 + z2) b (decide_eq_true ⟨by omega, by omega⟩)
     exact ⟨t3, h3, fun m h => (hm m h).elim (unhide HT6 m) (fun e => by omega)⟩
    have HE3 : Hid (∃ t3, tofS l3 W H = some t3 ∧ ∀ m ∈ t3.panes, m ≤ 6) := ⟨t3, ht3, hm3⟩
    have hl3 := tofS_pos ht3
    clear ht3 e3 hm3
    refine wpAnyH_ready (rs := [11]) (by kernel_rfl) (by simp) ?_
    refine AllReadyH.cons (o := oSrcL24) rfl (fun K hK => ?_) AllReadyH.nil
    go_simp
    refine (ssplitin a2 cap2 l.length l rfl t (unhide HT1) 0 0 (1 + y) (1 + z2) b (splitC l W H (1 + y) (1 + z2) b) l3 (decide_eq_true ⟨by omega, by omega⟩) rfl HL3 w4 (unhide D4).2.2.2.2).mono ?_
    rintro e w9 ⟨a3, cap3, rfl, hr3, hb3⟩
    have D9 := hide ((unhide D4).bl hb3)
    have R9 := hide hr3
    clear hr3 hb3 D4
    go_wp2_with fail
    refine hK.out _ _ ?_ (fun hHeld11 => ?_)
    ·trivial
    clear hK K
    try simp only [Act.put, qqA, qqB, qqC]
    refine wtv 12 (oi := oSrcL25) ?_
    refine wtv 13 (oi := oSrcL26) ?_
    refine wtv 14 (oi := oSrcL27) ?_
    refine wpAnyH_ready (rs := [15]) (by kernel_rfl) (by simp) ?_
    refine AllReadyH.cons (o := oSrcL28) rfl (fun K hK => ?_) AllReadyH.nil
    have kz := (unhide D9).2.2.1.S
    have kf := (unhide D9).2.2.1.F
    go_simp
    refine hK.out _ _ ?_ (fun hHeld15 => ?_)
    ·trivial
    clear hK K
    try simp only [Act.put, qqA, qqB, qqC]
    clear kz kf
    refine wpAnyH_done (by kernel_rfl) ?_ _
    have DX := hide ((unhide D9).put (cap3 := cap3) (unhide R9) hz0 hgz hzr hl3)
    clear D9 R9
    go_wp2_with fail
    go_roundw
    case rel => exact ⟨k - 1, p1 + 4, s4, l3, a3, cap3, by go_num, by omega, by omega, Q4, DX, unhide HE3⟩
    case measure => simp [intOf]; omega
   ·go_simp
    refine (snextI 6 g a cap lc (p1 + 1) s1 (by decide) (by decide) hl (by omega) (unhide Q1) w1 (unhide D1).1 ((unhide HR).grown (unhide D1).2.1 (unhide HGN)) (unhide HGN)).mono ?_
    rintro e w2 ⟨y, s2, rfl, hy, hs2, hA, hG⟩
    have D2 := hide ((unhide D1).nx hG hA hgz hgr hl0)
    have Q2 := hide hs2
    clear hA hG hs2 D1 Q1
    go_wp2_with fail
    refine hK.out _ _ ?_ (fun hHeld4 => ?_)
    ·trivial
    clear hK K
    try simp only [Act.put, qqA, qqB, qqC]
    refine wtv 5 (oi := oSrcL20) ?_
    rw [show IntKind.i64.wrap (1 + y) = 1 + y from wrapi _ (by omega) (by omega)]
    refine wpAnyH_ready (rs := [0, 7]) (by kernel_rfl) (by simp) ?_
    refine AllReadyH.cons (o := oSrcL18) rfl (fun K hK => ?_) (AllReadyH.cons (o := oSrcL21) rfl (fun K hK => ?_) AllReadyH.nil)
    ·have kz := (unhide D2).2.2.1.S
     go_simp
     refine hK.out _ _ ?_ (fun hHeld0 => ?_)
     ·trivial
     clear hK K
     try simp only [Act.put, qqA, qqB, qqC]
     clear kz
     refine wpAnyH_ready (rs := [7]) (by kernel_rfl) (by simp) ?_
     refine AllReadyH.cons (o := oSrcL21) rfl (fun K hK => ?_) AllReadyH.nil
     go_simp
     refine (snextI 6 g a cap lc (p1 + 2) s2 (by decide) (by decide) hl (by omega) (unhide Q2) w2 (unhide D2).1 ((unhide HR).grown (unhide D2).2.1 (unhide HGN)) (unhide HGN)).mono ?_
     rintro e w3 ⟨z2, s3, rfl, hz2, hs3, hA, hG⟩
     have D3 := hide ((unhide D2).nx hG hA hgz hgr hl0)
     have Q3 := hide hs3
     clear hA hG hs3 D2 Q2
     go_wp2_with fail
     refine hK.out _ _ ?_ (fun hHeld7 => ?_)
     ·trivial
     clear hK K
     try simp only [Act.put, qqA, qqB, qqC]
     refine wtv 8 (oi := oSrcL22) ?_
     rw [show IntKind.i64.wrap (1 + z2) = 1 + z2 from wrapi _ (by omega) (by omega)]
     refine wpAnyH_ready (rs := [10]) (by kernel_rfl) (by simp) ?_
     refine AllReadyH.cons (o := oSrcL23) rfl (fun K hK => ?_) AllReadyH.nil
     go_simp
     refine (schance 2 g a cap lc (p1 + 3) s3 (by decide) (by decide) hl (by omega) (unhide Q3) w3 (unhide D3).1 ((unhide HR).grown (unhide D3).2.1 (unhide HGN)) (unhide HGN)).mono ?_
     rintro e w4 ⟨b, s4, rfl, hs4, hA, hG⟩
     have D4 := hide ((unhide D3).nx hG hA hgz hgr hl0)
     have Q4 := hide hs4
     clear hA hG hs4 D3 Q3
     go_wp2_with fail
     refine hK.out _ _ ?_ (fun hHeld10 => ?_)
     ·trivial
     clear hK K
     try simp only [Act.put, qqA, qqB, qqC]
     obtain ⟨l3, e3⟩ : ∃ x, x = splitL l W H (1 + y) (1 + z2) b := ⟨_, rfl⟩
     have HL3 := hide e3
     obtain ⟨t3, ht3, hm3⟩ : ∃ t3, tofS l3 W H = some t3 ∧ ∀ m ∈ t3.panes, m ≤ 6 := by
      rw [e3]
      obtain ⟨t3, h3, hm⟩ := split_keeps (unhide HT1) (1 + y) (1 + z2) b (decide_eq_true ⟨by omega, by omega⟩)
      exact ⟨t3, h3, fun m h => (hm m h).elim (unhide HT6 m) (fun e => by omega)⟩
     have HE3 : Hid (∃ t3, tofS l3 W H = some t3 ∧ ∀ m ∈ t3.panes, m ≤ 6) := ⟨t3, ht3, hm3⟩
     have hl3 := tofS_pos ht3
     clear ht3 e3 hm3
     refine wpAnyH_ready (rs := [11]) (by kernel_rfl) (by simp) ?_
     refine AllReadyH.cons (o := oSrcL24) rfl (fun K hK => ?_) AllReadyH.nil
     go_simp
     refine (ssplitin a2 cap2 l.length l rfl t (unhide HT1) 0 0 (1 + y) (1 + z2) b (splitC l W H (1 + y) (1 + z2) b) l3 (decide_eq_true ⟨by omega, by omega⟩) rfl HL3 w4 (unhide D4).2.2.2.2).mono ?_
     rintro e w9 ⟨a3, cap3, rfl, hr3, hb3⟩
     have D9 := hide ((unhide D4).bl hb3)
     have R9 := hide hr3
     clear hr3 hb3 D4
     go_wp2_with fail
     refine hK.out _ _ ?_ (fun hHeld11 => ?_)
     ·trivial
     clear hK K
     try simp only [Act.put, qqA, qqB, qqC]
     refine wtv 12 (oi := oSrcL25) ?_
     refine wtv 13 (oi := oSrcL26) ?_
     refine wtv 14 (oi := oSrcL27) ?_
     refine wpAnyH_ready (rs := [15]) (by kernel_rfl) (by simp) ?_
     refine AllReadyH.cons (o := oSrcL28) rfl (fun K hK => ?_) AllReadyH.nil
     have kz := (unhide D9).2.2.1.S
     have kf := (unhide D9).2.2.1.F
     go_simp
     refine hK.out _ _ ?_ (fun hHeld15 => ?_)
     ·trivial
     clear hK K
     try simp only [Act.put, qqA, qqB, qqC]
     clear kz kf
     refine wpAnyH_done (by kernel_rfl) ?_ _
     have DX := hide ((unhide D9).put (cap3 := cap3) (unhide R9) hz0 hgz hzr hl3)
     clear D9 R9
     go_wp2_with fail
     go_roundw
     case rel => exact ⟨k - 1, p1 + 4, s4, l3, a3, cap3, by go_num, by omega, by omega, Q4, DX, unhide HE3⟩
     case measure => simp [intOf]; omega
    ·go_simp
     refine (snextI 6 g a cap lc (p1 + 2) s2 (by decide) (by decide) hl (by omega) (unhide Q2) w2 (unhide D2).1 ((unhide HR).grown (unhide D2).2.1 (unhide HGN)) (unhide HGN)).mono ?_
     rintro e w3 ⟨z2, s3, rfl, hz2, hs3, hA, hG⟩
     have D3 := hide ((unhide D2).nx hG hA hgz hgr hl0)
     have Q3 := hide hs3
     clear hA hG hs3 D2 Q2
     go_wp2_with fail
     refine hK.out _ _ ?_ (fun hHeld7 => ?_)
     ·trivial
     clear hK K
     try simp only [Act.put, qqA, qqB, qqC]
     refine wtv 8 (oi := oSrcL22) ?_
     rw [show IntKind.i64.wrap (1 + z2) = 1 + z2 from wrapi _ (by omega) (by omega)]
     refine wpAnyH_ready (rs := [0, 10]) (by kernel_rfl) (by simp) ?_
     refine AllReadyH.cons (o := oSrcL18) rfl (fun K hK => ?_) (AllReadyH.cons (o := oSrcL23) rfl (fun K hK => ?_) AllReadyH.nil)
     ·have kz := (unhide D3).2.2.1.S
      go_simp
      refine hK.out _ _ ?_ (fun hHeld0 => ?_)
      ·trivial
      clear hK K
      try simp only [Act.put, qqA, qqB, qqC]
      clear kz
      refine wpAnyH_ready (rs := [10]) (by kernel_rfl) (by simp) ?_
      refine AllReadyH.cons (o := oSrcL23) rfl (fun K hK => ?_) AllReadyH.nil
      go_simp
      refine (schance 2 g a cap lc (p1 + 3) s3 (by decide) (by decide) hl (by omega) (unhide Q3) w3 (unhide D3).1 ((unhide HR).grown (unhide D3).2.1 (unhide HGN)) (unhide HGN)).mono ?_
      rintro e w4 ⟨b, s4, rfl, hs4, hA, hG⟩
      have D4 := hide ((unhide D3).nx hG hA hgz hgr hl0)
      have Q4 := hide hs4
      clear hA hG hs4 D3 Q3
      go_wp2_with fail
      refine hK.out _ _ ?_ (fun hHeld10 => ?_)
      ·trivial
      clear hK K
      try simp only [Act.put, qqA, qqB, qqC]
      obtain ⟨l3, e3⟩ : ∃ x, x = splitL l W H (1 + y) (1 + z2) b := ⟨_, rfl⟩
      have HL3 := hide e3
      obtain ⟨t3, ht3, hm3⟩ : ∃ t3, tofS l3 W H = some t3 ∧ ∀ m ∈ t3.panes, m ≤ 6 := by
       rw [e3]
       obtain ⟨t3, h3, hm⟩ := split_keeps (unhide HT1) (1 + y) (1 + z2) b (decide_eq_true ⟨by omega, by omega⟩)
       exact ⟨t3, h3, fun m h => (hm m h).elim (unhide HT6 m) (fun e => by omega)⟩
      have HE3 : Hid (∃ t3, tofS l3 W H = some t3 ∧ ∀ m ∈ t3.panes, m ≤ 6) := ⟨t3, ht3, hm3⟩
      have hl3 := tofS_pos ht3
      clear ht3 e3 hm3
      refine wpAnyH_ready (rs := [11]) (by kernel_rfl) (by simp) ?_
      refine AllReadyH.cons (o := oSrcL24) rfl (fun K hK => ?_) AllReadyH.nil
      go_simp
      refine (ssplitin a2 cap2 l.length l rfl t (unhide HT1) 0 0 (1 + y) (1 + z2) b (splitC l W H (1 + y) (1 + z2) b) l3 (decide_eq_true ⟨by omega, by omega⟩) rfl HL3 w4 (unhide D4).2.2.2.2).mono ?_
      rintro e w9 ⟨a3, cap3, rfl, hr3, hb3⟩
      have D9 := hide ((unhide D4).bl hb3)
      have R9 := hide hr3
      clear hr3 hb3 D4
      go_wp2_with fail
      refine hK.out _ _ ?_ (fun hHeld11 => ?_)
      ·trivial
      clear hK K
      try simp only [Act.put, qqA, qqB, qqC]
      refine wtv 12 (oi := oSrcL25) ?_
      refine wtv 13 (oi := oSrcL26) ?_
      refine wtv 14 (oi := oSrcL27) ?_
      refine wpAnyH_ready (rs := [15]) (by kernel_rfl) (by simp) ?_
      refine AllReadyH.cons (o := oSrcL28) rfl (fun K hK => ?_) AllReadyH.nil
      have kz := (unhide D9).2.2.1.S
      have kf := (unhide D9).2.2.1.F
      go_simp
      refine hK.out _ _ ?_ (fun hHeld15 => ?_)
      ·trivial
      clear hK K
      try simp only [Act.put, qqA, qqB, qqC]
      clear kz kf
      refine wpAnyH_done (by kernel_rfl) ?_ _
      have DX := hide ((unhide D9).put (cap3 := cap3) (unhide R9) hz0 hgz hzr hl3)
      clear D9 R9
      go_wp2_with fail
      go_roundw
      case rel => exact ⟨k - 1, p1 + 4, s4, l3, a3, cap3, by go_num, by omega, by omega, Q4, DX, unhide HE3⟩
      case measure => simp [intOf]; omega
     ·go_simp
      refine (schance 2 g a cap lc (p1 + 3) s3 (by decide) (by decide) hl (by omega) (unhide Q3) w3 (unhide D3).1 ((unhide HR).grown (unhide D3).2.1 (unhide HGN)) (unhide HGN)).mono ?_
      rintro e w4 ⟨b, s4, rfl, hs4, hA, hG⟩
      have D4 := hide ((unhide D3).nx hG hA hgz hgr hl0)
      have Q4 := hide hs4
      clear hA hG hs4 D3 Q3
      go_wp2_with fail
      refine hK.out _ _ ?_ (fun hHeld10 => ?_)
      ·trivial
      clear hK K
      try simp only [Act.put, qqA, qqB, qqC]
      refine wpAnyH_ready (rs := [0]) (by kernel_rfl) (by simp) ?_
      refine AllReadyH.cons (o := oSrcL18) rfl (fun K hK => ?_) AllReadyH.nil
      have kz := (unhide D4).2.2.1.S
      go_simp
      refine hK.out _ _ ?_ (fun hHeld0 => ?_)
      ·trivial
      clear hK K
      try simp only [Act.put, qqA, qqB, qqC]
      clear kz
      obtain ⟨l3, e3⟩ : ∃ x, x = splitL l W H (1 + y) (1 + z2) b := ⟨_, rfl⟩
      have HL3 := hide e3
      obtain ⟨t3, ht3, hm3⟩ : ∃ t3, tofS l3 W H = some t3 ∧ ∀ m ∈ t3.panes, m ≤ 6 := by
       rw [e3]
       obtain ⟨t3, h3, hm⟩ := split_keeps (unhide HT1) (1 + y) (1 + z2) b (decide_eq_true ⟨by omega, by omega⟩)
       exact ⟨t3, h3, fun m h => (hm m h).elim (unhide HT6 m) (fun e => by omega)⟩
      have HE3 : Hid (∃ t3, tofS l3 W H = some t3 ∧ ∀ m ∈ t3.panes, m ≤ 6) := ⟨t3, ht3, hm3⟩
      have hl3 := tofS_pos ht3
      clear ht3 e3 hm3
      refine wpAnyH_ready (rs := [11]) (by kernel_rfl) (by simp) ?_
      refine AllReadyH.cons (o := oSrcL24) rfl (fun K hK => ?_) AllReadyH.nil
      go_simp
      refine (ssplitin a2 cap2 l.length l rfl t (unhide HT1) 0 0 (1 + y) (1 + z2) b (splitC l W H (1 + y) (1 + z2) b) l3 (decide_eq_true ⟨by omega, by omega⟩) rfl HL3 w4 (unhide D4).2.2.2.2).mono ?_
      rintro e w9 ⟨a3, cap3, rfl, hr3, hb3⟩
      have D9 := hide ((unhide D4).bl hb3)
      have R9 := hide hr3
      clear hr3 hb3 D4
      go_wp2_with fail
      refine hK.out _ _ ?_ (fun hHeld11 => ?_)
      ·trivial
      clear hK K
      try simp only [Act.put, qqA, qqB, qqC]
      refine wtv 12 (oi := oSrcL25) ?_
      refine wtv 13 (oi := oSrcL26) ?_
      refine wtv 14 (oi := oSrcL27) ?_
      refine wpAnyH_ready (rs := [15]) (by kernel_rfl) (by simp) ?_
      refine AllReadyH.cons (o := oSrcL28) rfl (fun K hK => ?_) AllReadyH.nil
      have kz := (unhide D9).2.2.1.S
      have kf := (unhide D9).2.2.1.F
      go_simp
      refine hK.out _ _ ?_ (fun hHeld15 => ?_)
      ·trivial
      clear hK K
      try simp only [Act.put, qqA, qqB, qqC]
      clear kz kf
      refine wpAnyH_done (by kernel_rfl) ?_ _
      have DX := hide ((unhide D9).put (cap3 := cap3) (unhide R9) hz0 hgz hzr hl3)
      clear D9 R9
      go_wp2_with fail
      go_roundw
      case rel => exact ⟨k - 1, p1 + 4, s4, l3, a3, cap3, by go_num, by omega, by omega, Q4, DX, unhide HE3⟩
      case measure => simp [intOf]; omega
  ·have h0' : ¬ 0 < (k : Int) := by omega
   have kz := (unhide D0).2.2.1.S
   have kr := (unhide D0).2.2.2.1.S
   have krf := (unhide D0).2.2.2.1.F
   go_wp2_with fail
   refine (sown a2 cap2 l.length l rfl (by have := (tofS_ok (unhide HT1)).2.2.1; have := (tofS_ok (unhide HT1)).2.2.2.1; omega) hl0 wr (unhide D0).2.2.2.2).mono ?_
   rintro e w4 ⟨a4, cap4, rfl, ho4, hb4⟩
   clear kz kr krf
   have D4 := hide ((unhide D0).bl hb4)
   have kr := (unhide D4).2.2.2.1.S
   have krf := (unhide D4).2.2.2.1.F
   have O4 := hide ho4
   have HW4 : Hid (w.heap.size < wr.heap.size) := (unhide D0).2.2.2.1.lt
   clear ho4 hb4 D0
   go_wp2_with fail
   refine bodyPost_ret (v := .agg #[.slice a4 l.length cap4]) (by simp [results, Tryd.results14, go_sem, kr]) rfl ⟨l, t, a4, cap4, rfl, unhide HT1, unhide HT6, ?_, grown_set (unhide D4).2.1 (Nat.le_refl _) 0 _⟩
   exact Go.Joins.ownsRow_le (ownsRow_setCell_below (unhide O4) (by exact unhide HW4) _) (Nat.le_of_lt (unhide HW4))
set_option maxHeartbeats 4000000 in
set_option maxRecDepth 100000 in
theorem slayoutOf (a : Option Addr) (cap : Nat) (lc : List UInt8) (hl : lc.length ≤ 1048600) (W H : Int) (HSZ : Hid (sizeB W H = true)) (w : World) (hr : Row8 w a lc) :
  Calls Tryd.prog 5 #[.slice a lc.length cap, .int .i64 W, .int .i64 H] w fun e w' => ∃ (l : List Pt) (t : Tr) (a2 : Option Addr) (cap2 : Nat), e = .returned (.agg #[.slice a2 l.length cap2]) ∧ tofS l W H = some t ∧ (∀ m ∈ t.panes, m ≤ 6) ∧ w'.ownsRow w.heap.size 53 5 (.slice a2 l.length cap2) l.length (cPt l) ∧ Below w.heap.size w w' := by
 obtain ⟨s0, hs0⟩ : ∃ s0 : Nat, s0 = lc.length % 1000 := ⟨_, rfl⟩
 have k1 : (lc.length : Int).tmod 1000 = (s0 : Int) := by rw [Int.tmod_eq_emod_of_nonneg (by omega)]; omega
 have k2 : (lc.length : Int) % 1000 = (s0 : Int) := by omega
 obtain ⟨wA, hwA⟩ : ∃ wA, wA = w.alloc (.cells #[.slice none 0 0] 26) := ⟨_, rfl⟩
 obtain ⟨w1, hw1⟩ : ∃ w1, w1 = wA.alloc (.cells #[.slice a lc.length cap, .int .i64 0, .int .i64 (s0 : Int)] 62) := ⟨_, rfl⟩
 have hbA : Below w.heap.size w wA := by rw [hwA]; exact Go.Joins.below_alloc1 w _
 have hzA : wA.heap.size = w.heap.size + 1 := by rw [hwA]; simp
 have hb1 : Below w.heap.size w w1 := by rw [hw1]; exact hbA.alloc (by omega) _
 have hA : SrcAt w1 wA.heap.size a cap lc 0 s0 := by rw [hw1]; exact arr_new wA [.slice a lc.length cap, .int .i64 0, .int .i64 (s0 : Int)] _
 have hR1 : BF w.heap.size #[.slice none 0 0] w1 := by rw [hw1, hwA]; exact (BF.new w _ _).alloc _
 have hap : ApartOf a lc wA.heap.size := by
  rcases hr with h | ⟨b, off, e, hb, _⟩
  ·exact .inl h
  ·refine .inr (fun x hx => ?_)
   rw [e] at hx; injection hx with hx; subst hx; show b ≠ _; omega
 have HH := hide (slayoutD wA.heap.size a cap lc 0 s0 hl (by omega) (by omega) W H HSZ w1 hA (hr.below hb1) hap)
 have HB1 := hide hb1
 have HR1 := hide hR1
 have hw1' := hw1.symm
 have HZA := hide hzA
 clear hr hap hb1 hA hw1 hs0 hbA hR1 hzA
 go_enter Tryd.func5, Tryd.ntmps5
 go_wp2_with fail
 rw [← hwA]
 refine (ssource a cap lc s0 k1 k2 wA).mono ?_
 rintro e w2 ⟨rfl, hw2⟩
 rw [hw1'] at hw2
 subst w2
 clear hw1' hwA
 go_wp2_with fail
 refine (unhide HH).mono ?_
 rintro e w3 ⟨l, t, a2, cap2, rfl, ht, ht6, ho, hg⟩
 have kr := ((unhide HR1).grown hg (fun h => by have := unhide HZA; injection h with h; omega)).S
 have krf := ((unhide HR1).grown hg (fun h => by have := unhide HZA; injection h with h; omega)).F
 have HO := hide ho
 have HT := hide ht
 have HT6 := hide ht6
 have HB3 := hide ((unhide HB1).grown hg (unhide HB1).size (fun k hk => by have := unhide HZA; injection hk with hk; omega))
 have HW1 : Hid (w.heap.size < w1.heap.size) := (unhide HR1).lt
 clear ho hg ht ht6 HH
 go_wp2_with fail
 refine bodyPost_ret (v := .agg #[.slice a2 l.length cap2]) (by simp [results, Tryd.results5, go_sem, kr]) rfl ⟨l, t, a2, cap2, rfl, unhide HT, unhide HT6, ?_, Below.setCell (unhide HB3) (Nat.le_refl _) _⟩
 exact Go.Joins.ownsRow_le (ownsRow_setCell_below (unhide HO) (by exact unhide HW1) _) (Nat.le_of_lt (unhide HW1))
end Go.Proofs.YtgnecacoehedkaaDoor
