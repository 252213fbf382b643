/- A drawn state that may follow another one is right. -/
import Derived.Test.YtamjljhbnhdgdaaDoorZG21
namespace Go.Proofs.YtamjljhbnhdgdaaDoor
open Go.ChangeShapes Go.WideShapes Go.ChangeAt Go.RowKit
set_option linter.unusedVariables false
set_option linter.unusedSimpArgs false
abbrev oSrcR0 : Oper := { dst := some 10, op := .load 3 (.tmp 9), type := 3, pos := "l07_store.go:219", after := #[{ on := 0, ground := .data }], guard := none }
abbrev oSrcR1 : Oper := { dst := some 12, op := .call { callee := .value (.func 29), args := #[.tmp 11, .const (.int .i64 2)], argTypes := #[45, 3] }, type := 3, pos := "l07_store.go:219", after := #[{ on := 2, ground := .data }], guard := none }
abbrev oSrcR2 : Oper := { dst := some 13, op := .binOp .add 3 (.tmp 10) (.tmp 12) 3, type := 3, pos := "l07_store.go:219", after := #[{ on := 1, ground := .data }, { on := 3, ground := .data }], guard := none }
abbrev oSrcR3 : Oper := { dst := some 14, op := .fieldAddr 25 (.tmp 5) 0, type := 0, pos := "l07_store.go:219", after := #[{ on := 0, ground := .phase }, { on := 1, ground := .phase }, { on := 2, ground := .phase }, { on := 3, ground := .phase }, { on := 4, ground := .phase }], guard := none }
abbrev oSrcR4 : Oper := { dst := none, op := .store 3 (.tmp 14) (.tmp 13), type := 0, pos := "l07_store.go:219", after := #[{ on := 5, ground := .data }, { on := 4, ground := .data }, { on := 3, ground := .chain }, { on := 0, ground := .phase }, { on := 1, ground := .phase }, { on := 2, ground := .phase }, { on := 3, ground := .phase }, { on := 4, ground := .phase }], guard := none }
abbrev oSrcR5 : Oper := { dst := some 20, op := .load 23 (.tmp 19), type := 23, pos := "l07_store.go:221", after := #[{ on := 0, ground := .data }], guard := none }
abbrev oSrcR6 : Oper := { dst := some 22, op := .load 23 (.tmp 21), type := 23, pos := "l07_store.go:221", after := #[{ on := 2, ground := .data }], guard := none }
abbrev oSrcR7 : Oper := { dst := some 26, op := .load 23 (.tmp 25), type := 23, pos := "l07_store.go:221", after := #[{ on := 6, ground := .data }], guard := none }
abbrev oSrcR8 : Oper := { dst := some 23, op := .call { callee := .builtin Go.Builtin.len, args := #[.tmp 22], argTypes := #[23] }, type := 3, pos := "l07_store.go:221", after := #[{ on := 3, ground := .data }], guard := none }
abbrev oSrcR9 : Oper := { dst := some 27, op := .call { callee := .builtin Go.Builtin.len, args := #[.tmp 26], argTypes := #[23] }, type := 3, pos := "l07_store.go:221", after := #[{ on := 7, ground := .data }], guard := none }
abbrev oSrcR10 : Oper := { dst := some 28, op := .binOp .add 3 (.tmp 27) (.const (.int .i64 1)) 3, type := 3, pos := "l07_store.go:221", after := #[{ on := 8, ground := .data }], guard := none }
abbrev oSrcR11 : Oper := { dst := some 29, op := .call { callee := .value (.func 29), args := #[.tmp 24, .tmp 28], argTypes := #[45, 3] }, type := 3, pos := "l07_store.go:221", after := #[{ on := 5, ground := .data }, { on := 9, ground := .data }], guard := none }
abbrev oSrcR12 : Oper := { dst := some 31, op := .call { callee := .value (.func 29), args := #[.tmp 30, .const (.int .i64 2)], argTypes := #[45, 3] }, type := 3, pos := "l07_store.go:221", after := #[{ on := 11, ground := .data }, { on := 10, ground := .chain }], guard := none }
abbrev oSrcR13 : Oper := { dst := some 32, op := .binOp .mul 3 (.tmp 29) (.tmp 31) 3, type := 3, pos := "l07_store.go:221", after := #[{ on := 10, ground := .data }, { on := 12, ground := .data }], guard := none }
abbrev oSrcR14 : Oper := { dst := some 33, op := .binOp .sub 3 (.tmp 23) (.tmp 32) 3, type := 3, pos := "l07_store.go:221", after := #[{ on := 4, ground := .data }, { on := 13, ground := .data }], guard := none }
abbrev oSrcR15 : Oper := { dst := some 34, op := .slice 23 (.tmp 20) none (some (.tmp 33)) none, type := 23, pos := "l07_store.go:221", after := #[{ on := 1, ground := .data }, { on := 14, ground := .data }], guard := none }
abbrev oSrcR16 : Oper := { dst := some 35, op := .fieldAddr 25 (.tmp 5) 2, type := 0, pos := "l07_store.go:221", after := #[{ on := 0, ground := .phase }, { on := 1, ground := .phase }, { on := 2, ground := .phase }, { on := 3, ground := .phase }, { on := 4, ground := .phase }, { on := 5, ground := .phase }, { on := 6, ground := .phase }, { on := 7, ground := .phase }, { on := 8, ground := .phase }, { on := 9, ground := .phase }, { on := 10, ground := .phase }, { on := 11, ground := .phase }, { on := 12, ground := .phase }, { on := 13, ground := .phase }, { on := 14, ground := .phase }, { on := 15, ground := .phase }], guard := none }
abbrev oSrcR17 : Oper := { dst := none, op := .store 23 (.tmp 35) (.tmp 34), type := 0, pos := "l07_store.go:221", after := #[{ on := 16, ground := .data }, { on := 15, ground := .data }, { on := 12, ground := .chain }, { on := 0, ground := .phase }, { on := 1, ground := .phase }, { on := 2, ground := .phase }, { on := 3, ground := .phase }, { on := 4, ground := .phase }, { on := 5, ground := .phase }, { on := 6, ground := .phase }, { on := 7, ground := .phase }, { on := 8, ground := .phase }, { on := 9, ground := .phase }, { on := 10, ground := .phase }, { on := 11, ground := .phase }, { on := 12, ground := .phase }, { on := 13, ground := .phase }, { on := 14, ground := .phase }, { on := 15, ground := .phase }], guard := none }
abbrev oSrcR18 : Oper := { dst := some 48, op := .load 23 (.tmp 47), type := 23, pos := "l07_store.go:223", after := #[{ on := 0, ground := .data }], guard := none }
abbrev oSrcR19 : Oper := { dst := some 52, op := .call { callee := .value (.func 30), args := #[.tmp 49, .tmp 51], argTypes := #[45, 3] }, type := 62, pos := "l07_store.go:223", after := #[{ on := 2, ground := .data }, { on := 4, ground := .data }], guard := none }
abbrev oSrcR20 : Oper := { dst := some 53, op := .buildSlice 23 1 #[(0, .tmp 52)], type := 23, pos := "l07_store.go:223", after := #[{ on := 5, ground := .data }], guard := none }
abbrev oSrcR21 : Oper := { dst := some 54, op := .call { callee := .builtin Go.Builtin.append, args := #[.tmp 48, .tmp 53], argTypes := #[23, 23] }, type := 23, pos := "l07_store.go:223", after := #[{ on := 1, ground := .data }, { on := 6, ground := .data }, { on := 5, ground := .chain }], guard := none }
abbrev oSrcR22 : Oper := { dst := some 55, op := .fieldAddr 25 (.tmp 5) 2, type := 0, pos := "l07_store.go:223", after := #[{ on := 0, ground := .phase }, { on := 1, ground := .phase }, { on := 2, ground := .phase }, { on := 3, ground := .phase }, { on := 4, ground := .phase }, { on := 5, ground := .phase }, { on := 6, ground := .phase }, { on := 7, ground := .phase }], guard := none }
abbrev oSrcR23 : Oper := { dst := none, op := .store 23 (.tmp 55) (.tmp 54), type := 0, pos := "l07_store.go:223", after := #[{ on := 8, ground := .data }, { on := 7, ground := .data }, { on := 7, ground := .chain }, { on := 0, ground := .phase }, { on := 1, ground := .phase }, { on := 2, ground := .phase }, { on := 3, ground := .phase }, { on := 4, ground := .phase }, { on := 5, ground := .phase }, { on := 6, ground := .phase }, { on := 7, ground := .phase }], guard := none }
theorem cut_bd {x y z : Int} {n : Nat} (hx : 0 ≤ x ∧ x < ((n + 1 : Nat) : Int)) (hy : 0 ≤ y ∧ y < ((2 : Nat) : Int)) (hz : z = x * y) : 0 ≤ z ∧ z ≤ (n : Int) := by
 have : y = 0 ∨ y = 1 := by omega
 rcases this with rfl | rfl
 ·rw [hz, Int.mul_zero]; omega
 ·rw [hz, Int.mul_one]; omega
theorem own_capQ {w : World} {base : Nat} {e : TypeId} {z : Nat} {a : Option Addr} {n cap : Nat} {xs : List Value} (h : w.ownsRow base e z (.slice a n cap) n xs) : n ≤ cap := by
 rcases h.2 with ⟨e, e2⟩ | ⟨g, c, cur, e, _, _, h3⟩
 ·cases e; omega
 ·cases e; exact h3.1
set_option maxRecDepth 100000 in
theorem snextA (n : Nat) (g : Nat) (a : Option Addr) (cap : Nat) (l : List UInt8) (p s : Nat) (hn : 1 ≤ n) (hn2 : n ≤ 256) (hl : l.length ≤ 1048600) (hp : p ≤ 2000000) (hs : s < 2147483648) (w : World) (h : SrcAt w g a cap l p s) (hr : Row8 w a l) (hg : ApartOf a l g) :
  Calls Tryd.prog 29 #[.pointer (some ⟨g, 0, none⟩), .int .i64 (n : Int)] w fun e w' => ∃ (x : Int) (p' s' : Nat), e = .returned (.int .i64 x) ∧ (0 ≤ x ∧ x < n) ∧ p' ≤ p + 1 ∧ s' < 2147483648 ∧ SrcAt w' g a cap l p' s' ∧ w.grownBy w' (some g) := by
 by_cases h1 : n = 1
 ·subst h1
  have HA := hide h
  have HS := hide hs
  clear h hr hg hs
  go_enter Tryd.func29, Tryd.ntmps29
  go_wp2_with fail
  go_ret
  exact ⟨0, p, s, rfl, ⟨by omega, by omega⟩, by omega, unhide HS, unhide HA, grownBy_refl _ _⟩
 ·refine (snextI n g a cap l p s (by omega) hn2 hl hp hs w h hr hg).mono ?_
  rintro e w' ⟨x, s', rfl, hx, h1, h2, h3⟩
  exact ⟨x, p + 1, s', rfl, hx, Nat.le_refl _, h1, h2, h3⟩
/-- A drawn region's end over a state under way. -/
def CutS (ACT : Int → Act) (F : Int → World → Prop) : Exit → Act → World → Prop := fun x a' v' =>
 match x with
 | .normal => ∃ b, a' = ACT b ∧ F b v'
 | _ => False
def CutT (ACT : Int → Int → Int → Nat → Act) (F : Nat → World → Prop) : Exit → Act → World → Prop := fun x a' v' =>
 match x with
 | .normal => ∃ b c d k, a' = ACT b c d k ∧ F k v'
 | _ => False
set_option maxHeartbeats 16000000 in
set_option maxRecDepth 100000 in
theorem slaterD (g : Nat) (a : Option Addr) (cap : Nat) (lc : List UInt8) (p s : Nat) (hl : lc.length ≤ 1048600) (hp : p ≤ 900000) (hs : s < 2147483648) (tm0 vt0 : Int) (wa : Option Addr) (wc n0 : Nat) (l0 : List Ent) (HN : Hid (l0.length = n0)) (hn0 : n0 ≤ 40) (htm0 : 0 ≤ tm0 ∧ tm0 ≤ 500) (HL0 : Hid (logB tm0 1 l0 = true)) (w : World) (h : SrcAt w g a cap lc p s) (hr : Row8 w a lc) (hg : ApartOf a lc g) (hrow : RowV w wa (cE l0)) :
  Calls Tryd.prog 15 #[.pointer (some ⟨g, 0, none⟩), .agg #[.int .i64 tm0, .int .i64 vt0, .slice wa n0 wc]] w fun e w' => ∃ (tm vt : Int) (va : Option Addr) (n vc : Nat) (l : List Ent), e = .returned (.agg #[.int .i64 tm, .int .i64 vt, .slice va n vc]) ∧ l.length = n ∧ n ≤ n0 + 2 ∧ (tm0 ≤ tm ∧ tm ≤ tm0 + 1) ∧ (-1 ≤ vt ∧ vt ≤ 2) ∧ logB tm 1 l = true ∧ Som va ∧ w'.ownsRow w.heap.size 62 2 (.slice va n vc) n (cE l) ∧ w.grownBy w' (some g) := by
 obtain ⟨i0, hi, hz0, hz1, hz2⟩ := info_parts Tryd.infE62
 have hgw : g < w.heap.size := ArrAt.lt h
 have HR := hide hr
 have HGN := hide hg
 have HS := hide hs
 have B0 := hide (Go.Joins.below_alloc2 w (.cells #[.int .i64 tm0, .int .i64 vt0, .slice wa n0 wc] 25) (.cells #[.int .i64 0, .int .i64 0, .slice none 0 0] 25))
 have Z0 := hide ((BF.new w #[.int .i64 tm0, .int .i64 vt0, .slice wa n0 wc] 25).alloc (.cells #[.int .i64 0, .int .i64 0, .slice none 0 0] 25))
 have R0 := BF.new (w.alloc (.cells #[.int .i64 tm0, .int .i64 vt0, .slice wa n0 wc] 25)) #[.int .i64 0, .int .i64 0, .slice none 0 0] 25
 rw [show (w.alloc (.cells #[.int .i64 tm0, .int .i64 vt0, .slice wa n0 wc] 25)).heap.size = w.heap.size + 1 from by simp] at R0
 have R1 := hide R0
 have A0 := hide (ArrAt.below h (unhide B0) hgw)
 have HRW := hide (hrow.below (unhide B0))
 have T := hide (sownS tm0 vt0 wa wc n0 l0 HN (by omega) _ (unhide HRW))
 clear h hr hg hs hrow R0 HRW
 have kz := (unhide Z0).S
 go_enter Tryd.func15, Tryd.ntmps15
 go_wp2_with fail
 clear kz
 refine (unhide T).mono ?_
 rintro e w1 ⟨bb, vc, rfl, ho, hb⟩
 obtain ⟨va, hva⟩ : ∃ va : Option Addr, va = some ⟨bb, 0, none⟩ := ⟨_, rfl⟩
 rw [← hva] at ho ⊢
 have HVA : Hid (Som va) := ⟨bb, hva⟩
 clear hva
 have A1 := hide (ArrAt.below (unhide A0) hb (by simp; omega))
 have R2 := hide ((unhide R1).below hb)
 have G1 := hide (World.grownBy.trans' (below_grownQ (unhide B0) (some g)) (below_grownQ hb (some g)))
 obtain ⟨P, hPe⟩ : ∃ P, P = w1.heap.size := ⟨_, rfl⟩
 have hwP1 : w.heap.size + 1 < P := by rw [hPe]; exact (unhide R2).lt
 have hwP : w.heap.size ≤ P := by omega
 have O1 := hide (Go.Joins.ownsRow_le ho (show w.heap.size ≤ _ by simp; omega))
 have hb2 : ∀ j, (Value.slice va n0 vc).ownBlock = some j → w.heap.size + 2 ≤ j ∧ j < w1.heap.size := fun j hj => by have := ho.lt j hj; simp at this; omega
 have D0 : Hid (Ds w g P (w.heap.size + 1) w.heap.size #[.int .i64 0, .int .i64 0, .slice none 0 0] a cap lc tm0 vt0 va n0 vc l0 p s (w1.alloc (.cells #[.int .i64 tm0, .int .i64 vt0, .slice va n0 vc] 25))) := by
  show Ds _ _ _ _ _ _ _ _ _ _ _ _ _ _ _ _ _ _
  refine ⟨ArrAt.alloc (unhide A1) _, World.grownBy.trans' (unhide G1) (below_grownQ (Go.Joins.below_alloc1 w1 _) _), ?_, (unhide R2).alloc _, (unhide O1).alloc _, fun j hj => ?_, unhide HN⟩
  ·rw [hPe]; exact BF.new _ _ _
  ·have := hb2 j hj; omega
 have Q0 := HS
 have hgP : g ≠ P := by omega
 have hgr : g ≠ w.heap.size + 1 := by omega
 have hPr : P ≠ w.heap.size + 1 := by omega
 have hgl : g < w.heap.size := hgw
 have HPe := hide hPe
 clear ho hb hb2 B0 Z0 R1 A0 T A1 R2 G1 O1 hPe HS
 go_wp2_with fail
 rw [← unhide HPe]
 generalize w1.alloc (.cells #[.int .i64 tm0, .int .i64 vt0, .slice va n0 vc] 25) = w4 at D0 ⊢
 obtain ⟨p1, hp1⟩ : ∃ q, q = p := ⟨_, rfl⟩
 obtain ⟨s0, hs0⟩ : ∃ q, q = s := ⟨_, rfl⟩
 rw [← hs0] at Q0
 rw [← hp1, ← hs0] at D0
 have HP1 := hide hp1
 clear hs0
 apply Code.wp_mono (Q := CutS _ (fun b v' => (0 ≤ b ∧ b ≤ 1) ∧ ∃ p' s', p' ≤ p1 + 1 ∧ Hid (s' < 2147483648) ∧ Hid (Ds w g P (w.heap.size + 1) w.heap.size #[.int .i64 0, .int .i64 0, .slice none 0 0] a cap lc (tm0 + b) vt0 va n0 vc l0 p' s' v')))
 rotate_left 1
 ·refine wp_region_held_drew (S := fun w' => w'.cell? ⟨P, 1, none⟩ = some (.int .i64 vt0)) (by kernel_rfl) ((unhide D0).2.2.1.S 1) (fun hHeld => ?_)
  have D0q := hide (unhide D0).drew
  generalize w4.drew = v0 at D0q hHeld ⊢
  have D0 := D0q
  have Q0 := hide (unhide Q0)
  clear D0q
  refine wtv 0 (oi := { dst := some 9, op := .fieldAddr 25 (.tmp 5) 0, type := 0, pos := "l07_store.go:219", after := #[], guard := none }) ?_
  refine wtv 2 (oi := { dst := some 11, op := .move (.tmp 0), type := 45, pos := "l07_store.go:219", after := #[], guard := none }) ?_
  refine wpAnyH_ready (rs := [1, 3]) (by kernel_rfl) (by simp) ?_
  refine AllReadyH.cons (o := oSrcR0) rfl (fun K hK => ?_) (AllReadyH.cons (o := oSrcR1) rfl (fun K hK => ?_) AllReadyH.nil)
  ·have kz := (unhide D0).2.2.1.S
   go_simp
   refine hK.out _ _ ?_ (fun hHeld1 => ?_)
   ·exact (unhide D0).2.2.1.S 1
   clear hK K
   try simp only [Act.put, qqA, qqB, qqC]
   clear kz
   refine wpAnyH_ready (rs := [3]) (by kernel_rfl) (by simp) ?_
   refine AllReadyH.cons (o := oSrcR1) rfl (fun K hK => ?_) AllReadyH.nil
   go_simp
   refine (snextI 2 g a cap lc _ _ (by omega) (by omega) hl (by omega) (unhide Q0) v0 (unhide D0).1 ((unhide HR).grown (unhide D0).2.1 (unhide HGN)) (unhide HGN)).mono ?_
   rintro e v1 ⟨b, s1, rfl, hb, hs, hA, hG⟩
   have D1 := hide ((unhide D0).nx hG hA hgP hgr hgl)
   have Q1 := hide hs
   clear hA hG hs D0 Q0
   go_wp2_with fail
   refine hK.out _ _ ?_ (fun hHeld3 => ?_)
   ·exact (unhide D1).2.2.1.S 1
   clear hK K
   try simp only [Act.put, qqA, qqB, qqC]
   refine wtv 4 (oi := oSrcR2) ?_
   rw [show IntKind.i64.wrap (tm0 + b) = tm0 + b from wrapi _ (by omega) (by omega)]
   refine wtv 5 (oi := oSrcR3) ?_
   refine wpAnyH_ready (rs := [6]) (by kernel_rfl) (by simp) ?_
   refine AllReadyH.cons (o := oSrcR4) rfl (fun K hK => ?_) AllReadyH.nil
   have kp := (unhide D1).2.2.1.S
   have kpf := (unhide D1).2.2.1.F
   have D7 := hide ((unhide D1).set (tm2 := tm0 + b) (vt2 := vt0) hgP hPr hwP 0 (.int .i64 (tm0 + b)) (by decide) rfl)
   go_simp
   refine hK.out _ _ ?_ (fun hHeld6 => ?_)
   ·exact (unhide D7).2.2.1.S 1
   clear hK K
   try simp only [Act.put, qqA, qqB, qqC]
   refine wpAnyH_done (by kernel_rfl) ?_ _
   clear kp kpf D1
   exact ⟨b, rfl, by omega, _, _, by omega, Q1, D7⟩
  ·go_simp
   refine (snextI 2 g a cap lc _ _ (by omega) (by omega) hl (by omega) (unhide Q0) v0 (unhide D0).1 ((unhide HR).grown (unhide D0).2.1 (unhide HGN)) (unhide HGN)).mono ?_
   rintro e v1 ⟨b, s1, rfl, hb, hs, hA, hG⟩
   have D1 := hide ((unhide D0).nx hG hA hgP hgr hgl)
   have Q1 := hide hs
   clear hA hG hs D0 Q0
   go_wp2_with fail
   refine hK.out _ _ ?_ (fun hHeld3 => ?_)
   ·exact (unhide D1).2.2.1.S 1
   clear hK K
   try simp only [Act.put, qqA, qqB, qqC]
   refine wpAnyH_ready (rs := [1]) (by kernel_rfl) (by simp) ?_
   refine AllReadyH.cons (o := oSrcR0) rfl (fun K hK => ?_) AllReadyH.nil
   have kz := (unhide D1).2.2.1.S
   go_simp
   refine hK.out _ _ ?_ (fun hHeld1 => ?_)
   ·exact (unhide D1).2.2.1.S 1
   clear hK K
   try simp only [Act.put, qqA, qqB, qqC]
   clear kz
   refine wtv 4 (oi := oSrcR2) ?_
   rw [show IntKind.i64.wrap (tm0 + b) = tm0 + b from wrapi _ (by omega) (by omega)]
   refine wtv 5 (oi := oSrcR3) ?_
   refine wpAnyH_ready (rs := [6]) (by kernel_rfl) (by simp) ?_
   refine AllReadyH.cons (o := oSrcR4) rfl (fun K hK => ?_) AllReadyH.nil
   have kp := (unhide D1).2.2.1.S
   have kpf := (unhide D1).2.2.1.F
   have D7 := hide ((unhide D1).set (tm2 := tm0 + b) (vt2 := vt0) hgP hPr hwP 0 (.int .i64 (tm0 + b)) (by decide) rfl)
   go_simp
   refine hK.out _ _ ?_ (fun hHeld6 => ?_)
   ·exact (unhide D7).2.2.1.S 1
   clear hK K
   try simp only [Act.put, qqA, qqB, qqC]
   refine wpAnyH_done (by kernel_rfl) ?_ _
   clear kp kpf D1
   exact ⟨b, rfl, by omega, _, _, by omega, Q1, D7⟩
 intro x a' w5 h
 cases x
 all_goals try exact False.elim h
 obtain ⟨b, rfl, hb, p2, s2, hp2, Q2, D2⟩ := h
 clear D0 Q0
 go_wp2_with fail
 refine (snextI 4 g a cap lc p2 s2 (by decide) (by decide) hl (by omega) (unhide Q2) w5 (unhide D2).1 ((unhide HR).grown (unhide D2).2.1 (unhide HGN)) (unhide HGN)).mono ?_
 rintro e w5b ⟨y, s3, rfl, hy, hs3, hA, hG⟩
 have D3 := hide ((unhide D2).nx hG hA hgP hgr hgl)
 have Q3 := hide hs3
 obtain ⟨vt, hvt⟩ : ∃ v, v = y - 1 := ⟨_, rfl⟩
 have hvt0 : -1 ≤ vt ∧ vt ≤ 2 := by omega
 have wvt : IntKind.i64.wrap (y - 1) = vt := by rw [hvt]; exact wrapi _ (by omega) (by omega)
 have kp := (unhide D3).2.2.1.S
 have kpf := (unhide D3).2.2.1.F
 have D0 := hide ((unhide D3).set (tm2 := tm0 + b) (vt2 := vt) hgP hPr hwP 1 (.int .i64 vt) (by decide) rfl)
 have Q0 := Q3
 clear hA hG hs3 hvt D2 Q2
 go_wp2_with fail
 clear kp kpf D3 Q3 wvt hy
 generalize w5b.setCell ⟨P, 1, none⟩ (.int .i64 vt) = w6 at D0 ⊢
 apply Code.wp_mono (Q := CutT _ (fun k v' => k ≤ n0 ∧ ∃ p' s', p' ≤ p2 + 3 ∧ Hid (s' < 2147483648) ∧ Hid (Ds w g P (w.heap.size + 1) w.heap.size #[.int .i64 0, .int .i64 0, .slice none 0 0] a cap lc (tm0 + b) vt va k vc (l0.take k) p' s' v')))
 rotate_left 1
 ·refine wp_region_held_drew (S := fun w' => w'.cell? ⟨P, 1, none⟩ = some (.int .i64 vt)) (by kernel_rfl) ((unhide D0).2.2.1.S 1) (fun hHeld => ?_)
  have D0q := hide (unhide D0).drew
  generalize w6.drew = v0 at D0q hHeld ⊢
  have D0 := D0q
  have Q0 := hide (unhide Q0)
  clear D0q
  refine wtv 0 (oi := { dst := some 19, op := .fieldAddr 25 (.tmp 5) 2, type := 0, pos := "l07_store.go:221", after := #[], guard := none }) ?_
  refine wtv 2 (oi := { dst := some 21, op := .fieldAddr 25 (.tmp 5) 2, type := 0, pos := "l07_store.go:221", after := #[], guard := none }) ?_
  refine wtv 5 (oi := { dst := some 24, op := .move (.tmp 0), type := 45, pos := "l07_store.go:221", after := #[], guard := none }) ?_
  refine wtv 6 (oi := { dst := some 25, op := .fieldAddr 25 (.tmp 5) 2, type := 0, pos := "l07_store.go:221", after := #[], guard := none }) ?_
  refine wtv 11 (oi := { dst := some 30, op := .move (.tmp 0), type := 45, pos := "l07_store.go:221", after := #[], guard := none }) ?_
  refine wpAnyH_ready (rs := [1, 3, 7]) (by kernel_rfl) (by simp) ?_
  refine AllReadyH.cons (o := oSrcR5) rfl (fun K hK => ?_) (AllReadyH.cons (o := oSrcR6) rfl (fun K hK => ?_) (AllReadyH.cons (o := oSrcR7) rfl (fun K hK => ?_) AllReadyH.nil))
  ·have kz := (unhide D0).2.2.1.S
   go_simp
   refine hK.out _ _ ?_ (fun hHeld1 => ?_)
   ·exact (unhide D0).2.2.1.S 1
   clear hK K
   try simp only [Act.put, qqA, qqB, qqC]
   clear kz
   refine wpAnyH_ready (rs := [3, 7]) (by kernel_rfl) (by simp) ?_
   refine AllReadyH.cons (o := oSrcR6) rfl (fun K hK => ?_) (AllReadyH.cons (o := oSrcR7) rfl (fun K hK => ?_) AllReadyH.nil)
   ·have kz := (unhide D0).2.2.1.S
    go_simp
    refine hK.out _ _ ?_ (fun hHeld3 => ?_)
    ·exact (unhide D0).2.2.1.S 1
    clear hK K
    try simp only [Act.put, qqA, qqB, qqC]
    clear kz
    refine wtv 4 (oi := oSrcR8) ?_
    refine wpAnyH_ready (rs := [7]) (by kernel_rfl) (by simp) ?_
    refine AllReadyH.cons (o := oSrcR7) rfl (fun K hK => ?_) AllReadyH.nil
    have kz := (unhide D0).2.2.1.S
    go_simp
    refine hK.out _ _ ?_ (fun hHeld7 => ?_)
    ·exact (unhide D0).2.2.1.S 1
    clear hK K
    try simp only [Act.put, qqA, qqB, qqC]
    clear kz
    refine wtv 8 (oi := oSrcR9) ?_
    refine wtv 9 (oi := oSrcR10) ?_
    rw [show IntKind.i64.wrap ((n0 : Int) + 1) = ((n0 + 1 : Nat) : Int) from wrapi _ (by omega) (by omega)]
    refine wpAnyH_ready (rs := [10]) (by kernel_rfl) (by simp) ?_
    refine AllReadyH.cons (o := oSrcR11) rfl (fun K hK => ?_) AllReadyH.nil
    go_simp
    refine (snextA (n0 + 1) g a cap lc _ _ (by omega) (by omega) hl (by omega) (unhide Q0) v0 (unhide D0).1 ((unhide HR).grown (unhide D0).2.1 (unhide HGN)) (unhide HGN)).mono ?_
    rintro e v1 ⟨x, p5, s1, rfl, hx, hp5, hs, hA, hG⟩
    have D1 := hide ((unhide D0).nx hG hA hgP hgr hgl)
    have Q1 := hide hs
    clear hA hG hs D0 Q0
    go_wp2_with fail
    refine hK.out _ _ ?_ (fun hHeld10 => ?_)
    ·exact (unhide D1).2.2.1.S 1
    clear hK K
    try simp only [Act.put, qqA, qqB, qqC]
    refine wpAnyH_ready (rs := [12]) (by kernel_rfl) (by simp) ?_
    refine AllReadyH.cons (o := oSrcR12) rfl (fun K hK => ?_) AllReadyH.nil
    go_simp
    refine (snextI 2 g a cap lc _ _ (by omega) (by omega) hl (by omega) (unhide Q1) v1 (unhide D1).1 ((unhide HR).grown (unhide D1).2.1 (unhide HGN)) (unhide HGN)).mono ?_
    rintro e v2 ⟨y, s2, rfl, hy, hs, hA, hG⟩
    have D2 := hide ((unhide D1).nx hG hA hgP hgr hgl)
    have Q2 := hide hs
    clear hA hG hs D1 Q1
    go_wp2_with fail
    refine hK.out _ _ ?_ (fun hHeld12 => ?_)
    ·exact (unhide D2).2.2.1.S 1
    clear hK K
    try simp only [Act.put, qqA, qqB, qqC]
    refine wtv 13 (oi := oSrcR13) ?_
    obtain ⟨z, hz⟩ : ∃ z : Int, z = x * y := ⟨_, rfl⟩
    have hz1 := cut_bd hx hy hz
    rw [← hz, show IntKind.i64.wrap z = z from wrapi _ (by omega) (by omega)]
    clear hz
    refine wtv 14 (oi := oSrcR14) ?_
    obtain ⟨k2, hk2⟩ : ∃ k2 : Nat, (k2 : Int) = (n0 : Int) - z := ⟨((n0 : Int) - z).toNat, by omega⟩
    rw [← hk2, show IntKind.i64.wrap (k2 : Int) = (k2 : Int) from wrapi _ (by omega) (by omega)]
    have hk2n : k2 ≤ n0 := by omega
    have hk2i : (k2 : Int) ≤ (vc : Int) := by have := own_capQ (unhide D2).2.2.2.2.1; omega
    clear hk2
    refine wtv 15 (oi := oSrcR15) ?_
    refine wtv 16 (oi := oSrcR16) ?_
    refine wpAnyH_ready (rs := [17]) (by kernel_rfl) (by simp) ?_
    refine AllReadyH.cons (o := oSrcR17) rfl (fun K hK => ?_) AllReadyH.nil
    have kp := (unhide D2).2.2.1.S
    have kpf := (unhide D2).2.2.1.F
    have D7 := hide ((unhide D2).cut hgP hPr hwP k2 hk2n)
    go_simp
    refine hK.out _ _ ?_ (fun hHeld17 => ?_)
    ·exact (unhide D7).2.2.1.S 1
    clear hK K
    try simp only [Act.put, qqA, qqB, qqC]
    refine wpAnyH_done (by kernel_rfl) ?_ _
    clear kp kpf D2
    exact ⟨x, y, z, k2, rfl, hk2n, _, _, by omega, Q2, D7⟩
   ·have kz := (unhide D0).2.2.1.S
    go_simp
    refine hK.out _ _ ?_ (fun hHeld7 => ?_)
    ·exact (unhide D0).2.2.1.S 1
    clear hK K
    try simp only [Act.put, qqA, qqB, qqC]
    clear kz
    refine wtv 8 (oi := oSrcR9) ?_
    refine wtv 9 (oi := oSrcR10) ?_
    rw [show IntKind.i64.wrap ((n0 : Int) + 1) = ((n0 + 1 : Nat) : Int) from wrapi _ (by omega) (by omega)]
    refine wpAnyH_ready (rs := [3, 10]) (by kernel_rfl) (by simp) ?_
    refine AllReadyH.cons (o := oSrcR6) rfl (fun K hK => ?_) (AllReadyH.cons (o := oSrcR11) rfl (fun K hK => ?_) AllReadyH.nil)
    ·have kz := (unhide D0).2.2.1.S
     go_simp
     refine hK.out _ _ ?_ (fun hHeld3 => ?_)
     ·exact (unhide D0).2.2.1.S 1
     clear hK K
     try simp only [Act.put, qqA, qqB, qqC]
     clear kz
     refine wtv 4 (oi := oSrcR8) ?_
     refine wpAnyH_ready (rs := [10]) (by kernel_rfl) (by simp) ?_
     refine AllReadyH.cons (o := oSrcR11) rfl (fun K hK => ?_) AllReadyH.nil
     go_simp
     refine (snextA (n0 + 1) g a cap lc _ _ (by omega) (by omega) hl (by omega) (unhide Q0) v0 (unhide D0).1 ((unhide HR).grown (unhide D0).2.1 (unhide HGN)) (unhide HGN)).mono ?_
     rintro e v1 ⟨x, p5, s1, rfl, hx, hp5, hs, hA, hG⟩
     have D1 := hide ((unhide D0).nx hG hA hgP hgr hgl)
     have Q1 := hide hs
     clear hA hG hs D0 Q0
     go_wp2_with fail
     refine hK.out _ _ ?_ (fun hHeld10 => ?_)
     ·exact (unhide D1).2.2.1.S 1
     clear hK K
     try simp only [Act.put, qqA, qqB, qqC]
     refine wpAnyH_ready (rs := [12]) (by kernel_rfl) (by simp) ?_
     refine AllReadyH.cons (o := oSrcR12) rfl (fun K hK => ?_) AllReadyH.nil
     go_simp
     refine (snextI 2 g a cap lc _ _ (by omega) (by omega) hl (by omega) (unhide Q1) v1 (unhide D1).1 ((unhide HR).grown (unhide D1).2.1 (unhide HGN)) (unhide HGN)).mono ?_
     rintro e v2 ⟨y, s2, rfl, hy, hs, hA, hG⟩
     have D2 := hide ((unhide D1).nx hG hA hgP hgr hgl)
     have Q2 := hide hs
     clear hA hG hs D1 Q1
     go_wp2_with fail
     refine hK.out _ _ ?_ (fun hHeld12 => ?_)
     ·exact (unhide D2).2.2.1.S 1
     clear hK K
     try simp only [Act.put, qqA, qqB, qqC]
     refine wtv 13 (oi := oSrcR13) ?_
     obtain ⟨z, hz⟩ : ∃ z : Int, z = x * y := ⟨_, rfl⟩
     have hz1 := cut_bd hx hy hz
     rw [← hz, show IntKind.i64.wrap z = z from wrapi _ (by omega) (by omega)]
     clear hz
     refine wtv 14 (oi := oSrcR14) ?_
     obtain ⟨k2, hk2⟩ : ∃ k2 : Nat, (k2 : Int) = (n0 : Int) - z := ⟨((n0 : Int) - z).toNat, by omega⟩
     rw [← hk2, show IntKind.i64.wrap (k2 : Int) = (k2 : Int) from wrapi _ (by omega) (by omega)]
     have hk2n : k2 ≤ n0 := by omega
     have hk2i : (k2 : Int) ≤ (vc : Int) := by have := own_capQ (unhide D2).2.2.2.2.1; omega
     clear hk2
     refine wtv 15 (oi := oSrcR15) ?_
     refine wtv 16 (oi := oSrcR16) ?_
     refine wpAnyH_ready (rs := [17]) (by kernel_rfl) (by simp) ?_
     refine AllReadyH.cons (o := oSrcR17) rfl (fun K hK => ?_) AllReadyH.nil
     have kp := (unhide D2).2.2.1.S
     have kpf := (unhide D2).2.2.1.F
     have D7 := hide ((unhide D2).cut hgP hPr hwP k2 hk2n)
     go_simp
     refine hK.out _ _ ?_ (fun hHeld17 => ?_)
     ·exact (unhide D7).2.2.1.S 1
     clear hK K
     try simp only [Act.put, qqA, qqB, qqC]
     refine wpAnyH_done (by kernel_rfl) ?_ _
     clear kp kpf D2
     exact ⟨x, y, z, k2, rfl, hk2n, _, _, by omega, Q2, D7⟩
    ·go_simp
     refine (snextA (n0 + 1) g a cap lc _ _ (by omega) (by omega) hl (by omega) (unhide Q0) v0 (unhide D0).1 ((unhide HR).grown (unhide D0).2.1 (unhide HGN)) (unhide HGN)).mono ?_
     rintro e v1 ⟨x, p5, s1, rfl, hx, hp5, hs, hA, hG⟩
     have D1 := hide ((unhide D0).nx hG hA hgP hgr hgl)
     have Q1 := hide hs
     clear hA hG hs D0 Q0
     go_wp2_with fail
     refine hK.out _ _ ?_ (fun hHeld10 => ?_)
     ·exact (unhide D1).2.2.1.S 1
     clear hK K
     try simp only [Act.put, qqA, qqB, qqC]
     refine wpAnyH_ready (rs := [3, 12]) (by kernel_rfl) (by simp) ?_
     refine AllReadyH.cons (o := oSrcR6) rfl (fun K hK => ?_) (AllReadyH.cons (o := oSrcR12) rfl (fun K hK => ?_) AllReadyH.nil)
     ·have kz := (unhide D1).2.2.1.S
      go_simp
      refine hK.out _ _ ?_ (fun hHeld3 => ?_)
      ·exact (unhide D1).2.2.1.S 1
      clear hK K
      try simp only [Act.put, qqA, qqB, qqC]
      clear kz
      refine wtv 4 (oi := oSrcR8) ?_
      refine wpAnyH_ready (rs := [12]) (by kernel_rfl) (by simp) ?_
      refine AllReadyH.cons (o := oSrcR12) rfl (fun K hK => ?_) AllReadyH.nil
      go_simp
      refine (snextI 2 g a cap lc _ _ (by omega) (by omega) hl (by omega) (unhide Q1) v1 (unhide D1).1 ((unhide HR).grown (unhide D1).2.1 (unhide HGN)) (unhide HGN)).mono ?_
      rintro e v2 ⟨y, s2, rfl, hy, hs, hA, hG⟩
      have D2 := hide ((unhide D1).nx hG hA hgP hgr hgl)
      have Q2 := hide hs
      clear hA hG hs D1 Q1
      go_wp2_with fail
      refine hK.out _ _ ?_ (fun hHeld12 => ?_)
      ·exact (unhide D2).2.2.1.S 1
      clear hK K
      try simp only [Act.put, qqA, qqB, qqC]
      refine wtv 13 (oi := oSrcR13) ?_
      obtain ⟨z, hz⟩ : ∃ z : Int, z = x * y := ⟨_, rfl⟩
      have hz1 := cut_bd hx hy hz
      rw [← hz, show IntKind.i64.wrap z = z from wrapi _ (by omega) (by omega)]
      clear hz
      refine wtv 14 (oi := oSrcR14) ?_
      obtain ⟨k2, hk2⟩ : ∃ k2 : Nat, (k2 : Int) = (n0 : Int) - z := ⟨((n0 : Int) - z).toNat, by omega⟩
      rw [← hk2, show IntKind.i64.wrap (k2 : Int) = (k2 : Int) from wrapi _ (by omega) (by omega)]
      have hk2n : k2 ≤ n0 := by omega
      have hk2i : (k2 : Int) ≤ (vc : Int) := by have := own_capQ (unhide D2).2.2.2.2.1; omega
      clear hk2
      refine wtv 15 (oi := oSrcR15) ?_
      refine wtv 16 (oi := oSrcR16) ?_
      refine wpAnyH_ready (rs := [17]) (by kernel_rfl) (by simp) ?_
      refine AllReadyH.cons (o := oSrcR17) rfl (fun K hK => ?_) AllReadyH.nil
      have kp := (unhide D2).2.2.1.S
      have kpf := (unhide D2).2.2.1.F
      have D7 := hide ((unhide D2).cut hgP hPr hwP k2 hk2n)
      go_simp
      refine hK.out _ _ ?_ (fun hHeld17 => ?_)
      ·exact (unhide D7).2.2.1.S 1
      clear hK K
      try simp only [Act.put, qqA, qqB, qqC]
      refine wpAnyH_done (by kernel_rfl) ?_ _
      clear kp kpf D2
      exact ⟨x, y, z, k2, rfl, hk2n, _, _, by omega, Q2, D7⟩
     ·go_simp
      refine (snextI 2 g a cap lc _ _ (by omega) (by omega) hl (by omega) (unhide Q1) v1 (unhide D1).1 ((unhide HR).grown (unhide D1).2.1 (unhide HGN)) (unhide HGN)).mono ?_
      rintro e v2 ⟨y, s2, rfl, hy, hs, hA, hG⟩
      have D2 := hide ((unhide D1).nx hG hA hgP hgr hgl)
      have Q2 := hide hs
      clear hA hG hs D1 Q1
      go_wp2_with fail
      refine hK.out _ _ ?_ (fun hHeld12 => ?_)
      ·exact (unhide D2).2.2.1.S 1
      clear hK K
      try simp only [Act.put, qqA, qqB, qqC]
      refine wtv 13 (oi := oSrcR13) ?_
      obtain ⟨z, hz⟩ : ∃ z : Int, z = x * y := ⟨_, rfl⟩
      have hz1 := cut_bd hx hy hz
      rw [← hz, show IntKind.i64.wrap z = z from wrapi _ (by omega) (by omega)]
      clear hz
      refine wpAnyH_ready (rs := [3]) (by kernel_rfl) (by simp) ?_
      refine AllReadyH.cons (o := oSrcR6) rfl (fun K hK => ?_) AllReadyH.nil
      have kz := (unhide D2).2.2.1.S
      go_simp
      refine hK.out _ _ ?_ (fun hHeld3 => ?_)
      ·exact (unhide D2).2.2.1.S 1
      clear hK K
      try simp only [Act.put, qqA, qqB, qqC]
      clear kz
      refine wtv 4 (oi := oSrcR8) ?_
      refine wtv 14 (oi := oSrcR14) ?_
      obtain ⟨k2, hk2⟩ : ∃ k2 : Nat, (k2 : Int) = (n0 : Int) - z := ⟨((n0 : Int) - z).toNat, by omega⟩
      rw [← hk2, show IntKind.i64.wrap (k2 : Int) = (k2 : Int) from wrapi _ (by omega) (by omega)]
      have hk2n : k2 ≤ n0 := by omega
      have hk2i : (k2 : Int) ≤ (vc : Int) := by have := own_capQ (unhide D2).2.2.2.2.1; omega
      clear hk2
      refine wtv 15 (oi := oSrcR15) ?_
      refine wtv 16 (oi := oSrcR16) ?_
      refine wpAnyH_ready (rs := [17]) (by kernel_rfl) (by simp) ?_
      refine AllReadyH.cons (o := oSrcR17) rfl (fun K hK => ?_) AllReadyH.nil
      have kp := (unhide D2).2.2.1.S
      have kpf := (unhide D2).2.2.1.F
      have D7 := hide ((unhide D2).cut hgP hPr hwP k2 hk2n)
      go_simp
      refine hK.out _ _ ?_ (fun hHeld17 => ?_)
      ·exact (unhide D7).2.2.1.S 1
      clear hK K
      try simp only [Act.put, qqA, qqB, qqC]
      refine wpAnyH_done (by kernel_rfl) ?_ _
      clear kp kpf D2
      exact ⟨x, y, z, k2, rfl, hk2n, _, _, by omega, Q2, D7⟩
  ·have kz := (unhide D0).2.2.1.S
   go_simp
   refine hK.out _ _ ?_ (fun hHeld3 => ?_)
   ·exact (unhide D0).2.2.1.S 1
   clear hK K
   try simp only [Act.put, qqA, qqB, qqC]
   clear kz
   refine wtv 4 (oi := oSrcR8) ?_
   refine wpAnyH_ready (rs := [1, 7]) (by kernel_rfl) (by simp) ?_
   refine AllReadyH.cons (o := oSrcR5) rfl (fun K hK => ?_) (AllReadyH.cons (o := oSrcR7) rfl (fun K hK => ?_) AllReadyH.nil)
   ·have kz := (unhide D0).2.2.1.S
    go_simp
    refine hK.out _ _ ?_ (fun hHeld1 => ?_)
    ·exact (unhide D0).2.2.1.S 1
    clear hK K
    try simp only [Act.put, qqA, qqB, qqC]
    clear kz
    refine wpAnyH_ready (rs := [7]) (by kernel_rfl) (by simp) ?_
    refine AllReadyH.cons (o := oSrcR7) rfl (fun K hK => ?_) AllReadyH.nil
    have kz := (unhide D0).2.2.1.S
    go_simp
    refine hK.out _ _ ?_ (fun hHeld7 => ?_)
    ·exact (unhide D0).2.2.1.S 1
    clear hK K
    try simp only [Act.put, qqA, qqB, qqC]
    clear kz
    refine wtv 8 (oi := oSrcR9) ?_
    refine wtv 9 (oi := oSrcR10) ?_
    rw [show IntKind.i64.wrap ((n0 : Int) + 1) = ((n0 + 1 : Nat) : Int) from wrapi _ (by omega) (by omega)]
    refine wpAnyH_ready (rs := [10]) (by kernel_rfl) (by simp) ?_
    refine AllReadyH.cons (o := oSrcR11) rfl (fun K hK => ?_) AllReadyH.nil
    go_simp
    refine (snextA (n0 + 1) g a cap lc _ _ (by omega) (by omega) hl (by omega) (unhide Q0) v0 (unhide D0).1 ((unhide HR).grown (unhide D0).2.1 (unhide HGN)) (unhide HGN)).mono ?_
    rintro e v1 ⟨x, p5, s1, rfl, hx, hp5, hs, hA, hG⟩
    have D1 := hide ((unhide D0).nx hG hA hgP hgr hgl)
    have Q1 := hide hs
    clear hA hG hs D0 Q0
    go_wp2_with fail
    refine hK.out _ _ ?_ (fun hHeld10 => ?_)
    ·exact (unhide D1).2.2.1.S 1
    clear hK K
    try simp only [Act.put, qqA, qqB, qqC]
    refine wpAnyH_ready (rs := [12]) (by kernel_rfl) (by simp) ?_
    refine AllReadyH.cons (o := oSrcR12) rfl (fun K hK => ?_) AllReadyH.nil
    go_simp
    refine (snextI 2 g a cap lc _ _ (by omega) (by omega) hl (by omega) (unhide Q1) v1 (unhide D1).1 ((unhide HR).grown (unhide D1).2.1 (unhide HGN)) (unhide HGN)).mono ?_
    rintro e v2 ⟨y, s2, rfl, hy, hs, hA, hG⟩
    have D2 := hide ((unhide D1).nx hG hA hgP hgr hgl)
    have Q2 := hide hs
    clear hA hG hs D1 Q1
    go_wp2_with fail
    refine hK.out _ _ ?_ (fun hHeld12 => ?_)
    ·exact (unhide D2).2.2.1.S 1
    clear hK K
    try simp only [Act.put, qqA, qqB, qqC]
    refine wtv 13 (oi := oSrcR13) ?_
    obtain ⟨z, hz⟩ : ∃ z : Int, z = x * y := ⟨_, rfl⟩
    have hz1 := cut_bd hx hy hz
    rw [← hz, show IntKind.i64.wrap z = z from wrapi _ (by omega) (by omega)]
    clear hz
    refine wtv 14 (oi := oSrcR14) ?_
    obtain ⟨k2, hk2⟩ : ∃ k2 : Nat, (k2 : Int) = (n0 : Int) - z := ⟨((n0 : Int) - z).toNat, by omega⟩
    rw [← hk2, show IntKind.i64.wrap (k2 : Int) = (k2 : Int) from wrapi _ (by omega) (by omega)]
    have hk2n : k2 ≤ n0 := by omega
    have hk2i : (k2 : Int) ≤ (vc : Int) := by have := own_capQ (unhide D2).2.2.2.2.1; omega
    clear hk2
    refine wtv 15 (oi := oSrcR15) ?_
    refine wtv 16 (oi := oSrcR16) ?_
    refine wpAnyH_ready (rs := [17]) (by kernel_rfl) (by simp) ?_
    refine AllReadyH.cons (o := oSrcR17) rfl (fun K hK => ?_) AllReadyH.nil
    have kp := (unhide D2).2.2.1.S
    have kpf := (unhide D2).2.2.1.F
    have D7 := hide ((unhide D2).cut hgP hPr hwP k2 hk2n)
    go_simp
    refine hK.out _ _ ?_ (fun hHeld17 => ?_)
    ·exact (unhide D7).2.2.1.S 1
    clear hK K
    try simp only [Act.put, qqA, qqB, qqC]
    refine wpAnyH_done (by kernel_rfl) ?_ _
    clear kp kpf D2
    exact ⟨x, y, z, k2, rfl, hk2n, _, _, by omega, Q2, D7⟩
   ·have kz := (unhide D0).2.2.1.S
    go_simp
    refine hK.out _ _ ?_ (fun hHeld7 => ?_)
    ·exact (unhide D0).2.2.1.S 1
    clear hK K
    try simp only [Act.put, qqA, qqB, qqC]
    clear kz
    refine wtv 8 (oi := oSrcR9) ?_
    refine wtv 9 (oi := oSrcR10) ?_
    rw [show IntKind.i64.wrap ((n0 : Int) + 1) = ((n0 + 1 : Nat) : Int) from wrapi _ (by omega) (by omega)]
    refine wpAnyH_ready (rs := [1, 10]) (by kernel_rfl) (by simp) ?_
    refine AllReadyH.cons (o := oSrcR5) rfl (fun K hK => ?_) (AllReadyH.cons (o := oSrcR11) rfl (fun K hK => ?_) AllReadyH.nil)
    ·have kz := (unhide D0).2.2.1.S
     go_simp
     refine hK.out _ _ ?_ (fun hHeld1 => ?_)
     ·exact (unhide D0).2.2.1.S 1
     clear hK K
     try simp only [Act.put, qqA, qqB, qqC]
     clear kz
     refine wpAnyH_ready (rs := [10]) (by kernel_rfl) (by simp) ?_
     refine AllReadyH.cons (o := oSrcR11) rfl (fun K hK => ?_) AllReadyH.nil
     go_simp
     refine (snextA (n0 + 1) g a cap lc _ _ (by omega) (by omega) hl (by omega) (unhide Q0) v0 (unhide D0).1 ((unhide HR).grown (unhide D0).2.1 (unhide HGN)) (unhide HGN)).mono ?_
     rintro e v1 ⟨x, p5, s1, rfl, hx, hp5, hs, hA, hG⟩
     have D1 := hide ((unhide D0).nx hG hA hgP hgr hgl)
     have Q1 := hide hs
     clear hA hG hs D0 Q0
     go_wp2_with fail
     refine hK.out _ _ ?_ (fun hHeld10 => ?_)
     ·exact (unhide D1).2.2.1.S 1
     clear hK K
     try simp only [Act.put, qqA, qqB, qqC]
     refine wpAnyH_ready (rs := [12]) (by kernel_rfl) (by simp) ?_
     refine AllReadyH.cons (o := oSrcR12) rfl (fun K hK => ?_) AllReadyH.nil
     go_simp
     refine (snextI 2 g a cap lc _ _ (by omega) (by omega) hl (by omega) (unhide Q1) v1 (unhide D1).1 ((unhide HR).grown (unhide D1).2.1 (unhide HGN)) (unhide HGN)).mono ?_
     rintro e v2 ⟨y, s2, rfl, hy, hs, hA, hG⟩
     have D2 := hide ((unhide D1).nx hG hA hgP hgr hgl)
     have Q2 := hide hs
     clear hA hG hs D1 Q1
     go_wp2_with fail
     refine hK.out _ _ ?_ (fun hHeld12 => ?_)
     ·exact (unhide D2).2.2.1.S 1
     clear hK K
     try simp only [Act.put, qqA, qqB, qqC]
     refine wtv 13 (oi := oSrcR13) ?_
     obtain ⟨z, hz⟩ : ∃ z : Int, z = x * y := ⟨_, rfl⟩
     have hz1 := cut_bd hx hy hz
     rw [← hz, show IntKind.i64.wrap z = z from wrapi _ (by omega) (by omega)]
     clear hz
     refine wtv 14 (oi := oSrcR14) ?_
     obtain ⟨k2, hk2⟩ : ∃ k2 : Nat, (k2 : Int) = (n0 : Int) - z := ⟨((n0 : Int) - z).toNat, by omega⟩
     rw [← hk2, show IntKind.i64.wrap (k2 : Int) = (k2 : Int) from wrapi _ (by omega) (by omega)]
     have hk2n : k2 ≤ n0 := by omega
     have hk2i : (k2 : Int) ≤ (vc : Int) := by have := own_capQ (unhide D2).2.2.2.2.1; omega
     clear hk2
     refine wtv 15 (oi := oSrcR15) ?_
     refine wtv 16 (oi := oSrcR16) ?_
     refine wpAnyH_ready (rs := [17]) (by kernel_rfl) (by simp) ?_
     refine AllReadyH.cons (o := oSrcR17) rfl (fun K hK => ?_) AllReadyH.nil
     have kp := (unhide D2).2.2.1.S
     have kpf := (unhide D2).2.2.1.F
     have D7 := hide ((unhide D2).cut hgP hPr hwP k2 hk2n)
     go_simp
     refine hK.out _ _ ?_ (fun hHeld17 => ?_)
     ·exact (unhide D7).2.2.1.S 1
     clear hK K
     try simp only [Act.put, qqA, qqB, qqC]
     refine wpAnyH_done (by kernel_rfl) ?_ _
     clear kp kpf D2
     exact ⟨x, y, z, k2, rfl, hk2n, _, _, by omega, Q2, D7⟩
    ·go_simp
     refine (snextA (n0 + 1) g a cap lc _ _ (by omega) (by omega) hl (by omega) (unhide Q0) v0 (unhide D0).1 ((unhide HR).grown (unhide D0).2.1 (unhide HGN)) (unhide HGN)).mono ?_
     rintro e v1 ⟨x, p5, s1, rfl, hx, hp5, hs, hA, hG⟩
     have D1 := hide ((unhide D0).nx hG hA hgP hgr hgl)
     have Q1 := hide hs
     clear hA hG hs D0 Q0
     go_wp2_with fail
     refine hK.out _ _ ?_ (fun hHeld10 => ?_)
     ·exact (unhide D1).2.2.1.S 1
     clear hK K
     try simp only [Act.put, qqA, qqB, qqC]
     refine wpAnyH_ready (rs := [1, 12]) (by kernel_rfl) (by simp) ?_
     refine AllReadyH.cons (o := oSrcR5) rfl (fun K hK => ?_) (AllReadyH.cons (o := oSrcR12) rfl (fun K hK => ?_) AllReadyH.nil)
     ·have kz := (unhide D1).2.2.1.S
      go_simp
      refine hK.out _ _ ?_ (fun hHeld1 => ?_)
      ·exact (unhide D1).2.2.1.S 1
      clear hK K
      try simp only [Act.put, qqA, qqB, qqC]
      clear kz
      refine wpAnyH_ready (rs := [12]) (by kernel_rfl) (by simp) ?_
      refine AllReadyH.cons (o := oSrcR12) rfl (fun K hK => ?_) AllReadyH.nil
      go_simp
      refine (snextI 2 g a cap lc _ _ (by omega) (by omega) hl (by omega) (unhide Q1) v1 (unhide D1).1 ((unhide HR).grown (unhide D1).2.1 (unhide HGN)) (unhide HGN)).mono ?_
      rintro e v2 ⟨y, s2, rfl, hy, hs, hA, hG⟩
      have D2 := hide ((unhide D1).nx hG hA hgP hgr hgl)
      have Q2 := hide hs
      clear hA hG hs D1 Q1
      go_wp2_with fail
      refine hK.out _ _ ?_ (fun hHeld12 => ?_)
      ·exact (unhide D2).2.2.1.S 1
      clear hK K
      try simp only [Act.put, qqA, qqB, qqC]
      refine wtv 13 (oi := oSrcR13) ?_
      obtain ⟨z, hz⟩ : ∃ z : Int, z = x * y := ⟨_, rfl⟩
      have hz1 := cut_bd hx hy hz
      rw [← hz, show IntKind.i64.wrap z = z from wrapi _ (by omega) (by omega)]
      clear hz
      refine wtv 14 (oi := oSrcR14) ?_
      obtain ⟨k2, hk2⟩ : ∃ k2 : Nat, (k2 : Int) = (n0 : Int) - z := ⟨((n0 : Int) - z).toNat, by omega⟩
      rw [← hk2, show IntKind.i64.wrap (k2 : Int) = (k2 : Int) from wrapi _ (by omega) (by omega)]
      have hk2n : k2 ≤ n0 := by omega
      have hk2i : (k2 : Int) ≤ (vc : Int) := by have := own_capQ (unhide D2).2.2.2.2.1; omega
      clear hk2
      refine wtv 15 (oi := oSrcR15) ?_
      refine wtv 16 (oi := oSrcR16) ?_
      refine wpAnyH_ready (rs := [17]) (by kernel_rfl) (by simp) ?_
      refine AllReadyH.cons (o := oSrcR17) rfl (fun K hK => ?_) AllReadyH.nil
      have kp := (unhide D2).2.2.1.S
      have kpf := (unhide D2).2.2.1.F
      have D7 := hide ((unhide D2).cut hgP hPr hwP k2 hk2n)
      go_simp
      refine hK.out _ _ ?_ (fun hHeld17 => ?_)
      ·exact (unhide D7).2.2.1.S 1
      clear hK K
      try simp only [Act.put, qqA, qqB, qqC]
      refine wpAnyH_done (by kernel_rfl) ?_ _
      clear kp kpf D2
      exact ⟨x, y, z, k2, rfl, hk2n, _, _, by omega, Q2, D7⟩
     ·go_simp
      refine (snextI 2 g a cap lc _ _ (by omega) (by omega) hl (by omega) (unhide Q1) v1 (unhide D1).1 ((unhide HR).grown (unhide D1).2.1 (unhide HGN)) (unhide HGN)).mono ?_
      rintro e v2 ⟨y, s2, rfl, hy, hs, hA, hG⟩
      have D2 := hide ((unhide D1).nx hG hA hgP hgr hgl)
      have Q2 := hide hs
      clear hA hG hs D1 Q1
      go_wp2_with fail
      refine hK.out _ _ ?_ (fun hHeld12 => ?_)
      ·exact (unhide D2).2.2.1.S 1
      clear hK K
      try simp only [Act.put, qqA, qqB, qqC]
      refine wtv 13 (oi := oSrcR13) ?_
      obtain ⟨z, hz⟩ : ∃ z : Int, z = x * y := ⟨_, rfl⟩
      have hz1 := cut_bd hx hy hz
      rw [← hz, show IntKind.i64.wrap z = z from wrapi _ (by omega) (by omega)]
      clear hz
      refine wtv 14 (oi := oSrcR14) ?_
      obtain ⟨k2, hk2⟩ : ∃ k2 : Nat, (k2 : Int) = (n0 : Int) - z := ⟨((n0 : Int) - z).toNat, by omega⟩
      rw [← hk2, show IntKind.i64.wrap (k2 : Int) = (k2 : Int) from wrapi _ (by omega) (by omega)]
      have hk2n : k2 ≤ n0 := by omega
      have hk2i : (k2 : Int) ≤ (vc : Int) := by have := own_capQ (unhide D2).2.2.2.2.1; omega
      clear hk2
      refine wpAnyH_ready (rs := [1]) (by kernel_rfl) (by simp) ?_
      refine AllReadyH.cons (o := oSrcR5) rfl (fun K hK => ?_) AllReadyH.nil
      have kz := (unhide D2).2.2.1.S
      go_simp
      refine hK.out _ _ ?_ (fun hHeld1 => ?_)
      ·exact (unhide D2).2.2.1.S 1
      clear hK K
      try simp only [Act.put, qqA, qqB, qqC]
      clear kz
      refine wtv 15 (oi := oSrcR15) ?_
      refine wtv 16 (oi := oSrcR16) ?_
      refine wpAnyH_ready (rs := [17]) (by kernel_rfl) (by simp) ?_
      refine AllReadyH.cons (o := oSrcR17) rfl (fun K hK => ?_) AllReadyH.nil
      have kp := (unhide D2).2.2.1.S
      have kpf := (unhide D2).2.2.1.F
      have D7 := hide ((unhide D2).cut hgP hPr hwP k2 hk2n)
      go_simp
      refine hK.out _ _ ?_ (fun hHeld17 => ?_)
      ·exact (unhide D7).2.2.1.S 1
      clear hK K
      try simp only [Act.put, qqA, qqB, qqC]
      refine wpAnyH_done (by kernel_rfl) ?_ _
      clear kp kpf D2
      exact ⟨x, y, z, k2, rfl, hk2n, _, _, by omega, Q2, D7⟩
  ·have kz := (unhide D0).2.2.1.S
   go_simp
   refine hK.out _ _ ?_ (fun hHeld7 => ?_)
   ·exact (unhide D0).2.2.1.S 1
   clear hK K
   try simp only [Act.put, qqA, qqB, qqC]
   clear kz
   refine wtv 8 (oi := oSrcR9) ?_
   refine wtv 9 (oi := oSrcR10) ?_
   rw [show IntKind.i64.wrap ((n0 : Int) + 1) = ((n0 + 1 : Nat) : Int) from wrapi _ (by omega) (by omega)]
   refine wpAnyH_ready (rs := [1, 3, 10]) (by kernel_rfl) (by simp) ?_
   refine AllReadyH.cons (o := oSrcR5) rfl (fun K hK => ?_) (AllReadyH.cons (o := oSrcR6) rfl (fun K hK => ?_) (AllReadyH.cons (o := oSrcR11) rfl (fun K hK => ?_) AllReadyH.nil))
   ·have kz := (unhide D0).2.2.1.S
    go_simp
    refine hK.out _ _ ?_ (fun hHeld1 => ?_)
    ·exact (unhide D0).2.2.1.S 1
    clear hK K
    try simp only [Act.put, qqA, qqB, qqC]
    clear kz
    refine wpAnyH_ready (rs := [3, 10]) (by kernel_rfl) (by simp) ?_
    refine AllReadyH.cons (o := oSrcR6) rfl (fun K hK => ?_) (AllReadyH.cons (o := oSrcR11) rfl (fun K hK => ?_) AllReadyH.nil)
    ·have kz := (unhide D0).2.2.1.S
     go_simp
     refine hK.out _ _ ?_ (fun hHeld3 => ?_)
     ·exact (unhide D0).2.2.1.S 1
     clear hK K
     try simp only [Act.put, qqA, qqB, qqC]
     clear kz
     refine wtv 4 (oi := oSrcR8) ?_
     refine wpAnyH_ready (rs := [10]) (by kernel_rfl) (by simp) ?_
     refine AllReadyH.cons (o := oSrcR11) rfl (fun K hK => ?_) AllReadyH.nil
     go_simp
     refine (snextA (n0 + 1) g a cap lc _ _ (by omega) (by omega) hl (by omega) (unhide Q0) v0 (unhide D0).1 ((unhide HR).grown (unhide D0).2.1 (unhide HGN)) (unhide HGN)).mono ?_
     rintro e v1 ⟨x, p5, s1, rfl, hx, hp5, hs, hA, hG⟩
     have D1 := hide ((unhide D0).nx hG hA hgP hgr hgl)
     have Q1 := hide hs
     clear hA hG hs D0 Q0
     go_wp2_with fail
     refine hK.out _ _ ?_ (fun hHeld10 => ?_)
     ·exact (unhide D1).2.2.1.S 1
     clear hK K
     try simp only [Act.put, qqA, qqB, qqC]
     refine wpAnyH_ready (rs := [12]) (by kernel_rfl) (by simp) ?_
     refine AllReadyH.cons (o := oSrcR12) rfl (fun K hK => ?_) AllReadyH.nil
     go_simp
     refine (snextI 2 g a cap lc _ _ (by omega) (by omega) hl (by omega) (unhide Q1) v1 (unhide D1).1 ((unhide HR).grown (unhide D1).2.1 (unhide HGN)) (unhide HGN)).mono ?_
     rintro e v2 ⟨y, s2, rfl, hy, hs, hA, hG⟩
     have D2 := hide ((unhide D1).nx hG hA hgP hgr hgl)
     have Q2 := hide hs
     clear hA hG hs D1 Q1
     go_wp2_with fail
     refine hK.out _ _ ?_ (fun hHeld12 => ?_)
     ·exact (unhide D2).2.2.1.S 1
     clear hK K
     try simp only [Act.put, qqA, qqB, qqC]
     refine wtv 13 (oi := oSrcR13) ?_
     obtain ⟨z, hz⟩ : ∃ z : Int, z = x * y := ⟨_, rfl⟩
     have hz1 := cut_bd hx hy hz
     rw [← hz, show IntKind.i64.wrap z = z from wrapi _ (by omega) (by omega)]
     clear hz
     refine wtv 14 (oi := oSrcR14) ?_
     obtain ⟨k2, hk2⟩ : ∃ k2 : Nat, (k2 : Int) = (n0 : Int) - z := ⟨((n0 : Int) - z).toNat, by omega⟩
     rw [← hk2, show IntKind.i64.wrap (k2 : Int) = (k2 : Int) from wrapi _ (by omega) (by omega)]
     have hk2n : k2 ≤ n0 := by omega
     have hk2i : (k2 : Int) ≤ (vc : Int) := by have := own_capQ (unhide D2).2.2.2.2.1; omega
     clear hk2
     refine wtv 15 (oi := oSrcR15) ?_
     refine wtv 16 (oi := oSrcR16) ?_
     refine wpAnyH_ready (rs := [17]) (by kernel_rfl) (by simp) ?_
     refine AllReadyH.cons (o := oSrcR17) rfl (fun K hK => ?_) AllReadyH.nil
     have kp := (unhide D2).2.2.1.S
     have kpf := (unhide D2).2.2.1.F
     have D7 := hide ((unhide D2).cut hgP hPr hwP k2 hk2n)
     go_simp
     refine hK.out _ _ ?_ (fun hHeld17 => ?_)
     ·exact (unhide D7).2.2.1.S 1
     clear hK K
     try simp only [Act.put, qqA, qqB, qqC]
     refine wpAnyH_done (by kernel_rfl) ?_ _
     clear kp kpf D2
     exact ⟨x, y, z, k2, rfl, hk2n, _, _, by omega, Q2, D7⟩
    ·go_simp
     refine (snextA (n0 + 1) g a cap lc _ _ (by omega) (by omega) hl (by omega) (unhide Q0) v0 (unhide D0).1 ((unhide HR).grown (unhide D0).2.1 (unhide HGN)) (unhide HGN)).mono ?_
     rintro e v1 ⟨x, p5, s1, rfl, hx, hp5, hs, hA, hG⟩
     have D1 := hide ((unhide D0).nx hG hA hgP hgr hgl)
     have Q1 := hide hs
     clear hA hG hs D0 Q0
     go_wp2_with fail
     refine hK.out _ _ ?_ (fun hHeld10 => ?_)
     ·exact (unhide D1).2.2.1.S 1
     clear hK K
     try simp only [Act.put, qqA, qqB, qqC]
     refine wpAnyH_ready (rs := [3, 12]) (by kernel_rfl) (by simp) ?_
     refine AllReadyH.cons (o := oSrcR6) rfl (fun K hK => ?_) (AllReadyH.cons (o := oSrcR12) rfl (fun K hK => ?_) AllReadyH.nil)
     ·have kz := (unhide D1).2.2.1.S
      go_simp
      refine hK.out _ _ ?_ (fun hHeld3 => ?_)
      ·exact (unhide D1).2.2.1.S 1
      clear hK K
      try simp only [Act.put, qqA, qqB, qqC]
      clear kz
      refine wtv 4 (oi := oSrcR8) ?_
      refine wpAnyH_ready (rs := [12]) (by kernel_rfl) (by simp) ?_
      refine AllReadyH.cons (o := oSrcR12) rfl (fun K hK => ?_) AllReadyH.nil
      go_simp
      refine (snextI 2 g a cap lc _ _ (by omega) (by omega) hl (by omega) (unhide Q1) v1 (unhide D1).1 ((unhide HR).grown (unhide D1).2.1 (unhide HGN)) (unhide HGN)).mono ?_
      rintro e v2 ⟨y, s2, rfl, hy, hs, hA, hG⟩
      have D2 := hide ((unhide D1).nx hG hA hgP hgr hgl)
      have Q2 := hide hs
      clear hA hG hs D1 Q1
      go_wp2_with fail
      refine hK.out _ _ ?_ (fun hHeld12 => ?_)
      ·exact (unhide D2).2.2.1.S 1
      clear hK K
      try simp only [Act.put, qqA, qqB, qqC]
      refine wtv 13 (oi := oSrcR13) ?_
      obtain ⟨z, hz⟩ : ∃ z : Int, z = x * y := ⟨_, rfl⟩
      have hz1 := cut_bd hx hy hz
      rw [← hz, show IntKind.i64.wrap z = z from wrapi _ (by omega) (by omega)]
      clear hz
      refine wtv 14 (oi := oSrcR14) ?_
      obtain ⟨k2, hk2⟩ : ∃ k2 : Nat, (k2 : Int) = (n0 : Int) - z := ⟨((n0 : Int) - z).toNat, by omega⟩
      rw [← hk2, show IntKind.i64.wrap (k2 : Int) = (k2 : Int) from wrapi _ (by omega) (by omega)]
      have hk2n : k2 ≤ n0 := by omega
      have hk2i : (k2 : Int) ≤ (vc : Int) := by have := own_capQ (unhide D2).2.2.2.2.1; omega
      clear hk2
      refine wtv 15 (oi := oSrcR15) ?_
      refine wtv 16 (oi := oSrcR16) ?_
      refine wpAnyH_ready (rs := [17]) (by kernel_rfl) (by simp) ?_
      refine AllReadyH.cons (o := oSrcR17) rfl (fun K hK => ?_) AllReadyH.nil
      have kp := (unhide D2).2.2.1.S
      have kpf := (unhide D2).2.2.1.F
      have D7 := hide ((unhide D2).cut hgP hPr hwP k2 hk2n)
      go_simp
      refine hK.out _ _ ?_ (fun hHeld17 => ?_)
      ·exact (unhide D7).2.2.1.S 1
      clear hK K
      try simp only [Act.put, qqA, qqB, qqC]
      refine wpAnyH_done (by kernel_rfl) ?_ _
      clear kp kpf D2
      exact ⟨x, y, z, k2, rfl, hk2n, _, _, by omega, Q2, D7⟩
     ·go_simp
      refine (snextI 2 g a cap lc _ _ (by omega) (by omega) hl (by omega) (unhide Q1) v1 (unhide D1).1 ((unhide HR).grown (unhide D1).2.1 (unhide HGN)) (unhide HGN)).mono ?_
      rintro e v2 ⟨y, s2, rfl, hy, hs, hA, hG⟩
      have D2 := hide ((unhide D1).nx hG hA hgP hgr hgl)
      have Q2 := hide hs
      clear hA hG hs D1 Q1
      go_wp2_with fail
      refine hK.out _ _ ?_ (fun hHeld12 => ?_)
      ·exact (unhide D2).2.2.1.S 1
      clear hK K
      try simp only [Act.put, qqA, qqB, qqC]
      refine wtv 13 (oi := oSrcR13) ?_
      obtain ⟨z, hz⟩ : ∃ z : Int, z = x * y := ⟨_, rfl⟩
      have hz1 := cut_bd hx hy hz
      rw [← hz, show IntKind.i64.wrap z = z from wrapi _ (by omega) (by omega)]
      clear hz
      refine wpAnyH_ready (rs := [3]) (by kernel_rfl) (by simp) ?_
      refine AllReadyH.cons (o := oSrcR6) rfl (fun K hK => ?_) AllReadyH.nil
      have kz := (unhide D2).2.2.1.S
      go_simp
      refine hK.out _ _ ?_ (fun hHeld3 => ?_)
      ·exact (unhide D2).2.2.1.S 1
      clear hK K
      try simp only [Act.put, qqA, qqB, qqC]
      clear kz
      refine wtv 4 (oi := oSrcR8) ?_
      refine wtv 14 (oi := oSrcR14) ?_
      obtain ⟨k2, hk2⟩ : ∃ k2 : Nat, (k2 : Int) = (n0 : Int) - z := ⟨((n0 : Int) - z).toNat, by omega⟩
      rw [← hk2, show IntKind.i64.wrap (k2 : Int) = (k2 : Int) from wrapi _ (by omega) (by omega)]
      have hk2n : k2 ≤ n0 := by omega
      have hk2i : (k2 : Int) ≤ (vc : Int) := by have := own_capQ (unhide D2).2.2.2.2.1; omega
      clear hk2
      refine wtv 15 (oi := oSrcR15) ?_
      refine wtv 16 (oi := oSrcR16) ?_
      refine wpAnyH_ready (rs := [17]) (by kernel_rfl) (by simp) ?_
      refine AllReadyH.cons (o := oSrcR17) rfl (fun K hK => ?_) AllReadyH.nil
      have kp := (unhide D2).2.2.1.S
      have kpf := (unhide D2).2.2.1.F
      have D7 := hide ((unhide D2).cut hgP hPr hwP k2 hk2n)
      go_simp
      refine hK.out _ _ ?_ (fun hHeld17 => ?_)
      ·exact (unhide D7).2.2.1.S 1
      clear hK K
      try simp only [Act.put, qqA, qqB, qqC]
      refine wpAnyH_done (by kernel_rfl) ?_ _
      clear kp kpf D2
      exact ⟨x, y, z, k2, rfl, hk2n, _, _, by omega, Q2, D7⟩
   ·have kz := (unhide D0).2.2.1.S
    go_simp
    refine hK.out _ _ ?_ (fun hHeld3 => ?_)
    ·exact (unhide D0).2.2.1.S 1
    clear hK K
    try simp only [Act.put, qqA, qqB, qqC]
    clear kz
    refine wtv 4 (oi := oSrcR8) ?_
    refine wpAnyH_ready (rs := [1, 10]) (by kernel_rfl) (by simp) ?_
    refine AllReadyH.cons (o := oSrcR5) rfl (fun K hK => ?_) (AllReadyH.cons (o := oSrcR11) rfl (fun K hK => ?_) AllReadyH.nil)
    ·have kz := (unhide D0).2.2.1.S
     go_simp
     refine hK.out _ _ ?_ (fun hHeld1 => ?_)
     ·exact (unhide D0).2.2.1.S 1
     clear hK K
     try simp only [Act.put, qqA, qqB, qqC]
     clear kz
     refine wpAnyH_ready (rs := [10]) (by kernel_rfl) (by simp) ?_
     refine AllReadyH.cons (o := oSrcR11) rfl (fun K hK => ?_) AllReadyH.nil
     go_simp
     refine (snextA (n0 + 1) g a cap lc _ _ (by omega) (by omega) hl (by omega) (unhide Q0) v0 (unhide D0).1 ((unhide HR).grown (unhide D0).2.1 (unhide HGN)) (unhide HGN)).mono ?_
     rintro e v1 ⟨x, p5, s1, rfl, hx, hp5, hs, hA, hG⟩
     have D1 := hide ((unhide D0).nx hG hA hgP hgr hgl)
     have Q1 := hide hs
     clear hA hG hs D0 Q0
     go_wp2_with fail
     refine hK.out _ _ ?_ (fun hHeld10 => ?_)
     ·exact (unhide D1).2.2.1.S 1
     clear hK K
     try simp only [Act.put, qqA, qqB, qqC]
     refine wpAnyH_ready (rs := [12]) (by kernel_rfl) (by simp) ?_
     refine AllReadyH.cons (o := oSrcR12) rfl (fun K hK => ?_) AllReadyH.nil
     go_simp
     refine (snextI 2 g a cap lc _ _ (by omega) (by omega) hl (by omega) (unhide Q1) v1 (unhide D1).1 ((unhide HR).grown (unhide D1).2.1 (unhide HGN)) (unhide HGN)).mono ?_
     rintro e v2 ⟨y, s2, rfl, hy, hs, hA, hG⟩
     have D2 := hide ((unhide D1).nx hG hA hgP hgr hgl)
     have Q2 := hide hs
     clear hA hG hs D1 Q1
     go_wp2_with fail
     refine hK.out _ _ ?_ (fun hHeld12 => ?_)
     ·exact (unhide D2).2.2.1.S 1
     clear hK K
     try simp only [Act.put, qqA, qqB, qqC]
     refine wtv 13 (oi := oSrcR13) ?_
     obtain ⟨z, hz⟩ : ∃ z : Int, z = x * y := ⟨_, rfl⟩
     have hz1 := cut_bd hx hy hz
     rw [← hz, show IntKind.i64.wrap z = z from wrapi _ (by omega) (by omega)]
     clear hz
     refine wtv 14 (oi := oSrcR14) ?_
     obtain ⟨k2, hk2⟩ : ∃ k2 : Nat, (k2 : Int) = (n0 : Int) - z := ⟨((n0 : Int) - z).toNat, by omega⟩
     rw [← hk2, show IntKind.i64.wrap (k2 : Int) = (k2 : Int) from wrapi _ (by omega) (by omega)]
     have hk2n : k2 ≤ n0 := by omega
     have hk2i : (k2 : Int) ≤ (vc : Int) := by have := own_capQ (unhide D2).2.2.2.2.1; omega
     clear hk2
     refine wtv 15 (oi := oSrcR15) ?_
     refine wtv 16 (oi := oSrcR16) ?_
     refine wpAnyH_ready (rs := [17]) (by kernel_rfl) (by simp) ?_
     refine AllReadyH.cons (o := oSrcR17) rfl (fun K hK => ?_) AllReadyH.nil
     have kp := (unhide D2).2.2.1.S
     have kpf := (unhide D2).2.2.1.F
     have D7 := hide ((unhide D2).cut hgP hPr hwP k2 hk2n)
     go_simp
     refine hK.out _ _ ?_ (fun hHeld17 => ?_)
     ·exact (unhide D7).2.2.1.S 1
     clear hK K
     try simp only [Act.put, qqA, qqB, qqC]
     refine wpAnyH_done (by kernel_rfl) ?_ _
     clear kp kpf D2
     exact ⟨x, y, z, k2, rfl, hk2n, _, _, by omega, Q2, D7⟩
    ·go_simp
     refine (snextA (n0 + 1) g a cap lc _ _ (by omega) (by omega) hl (by omega) (unhide Q0) v0 (unhide D0).1 ((unhide HR).grown (unhide D0).2.1 (unhide HGN)) (unhide HGN)).mono ?_
     rintro e v1 ⟨x, p5, s1, rfl, hx, hp5, hs, hA, hG⟩
     have D1 := hide ((unhide D0).nx hG hA hgP hgr hgl)
     have Q1 := hide hs
     clear hA hG hs D0 Q0
     go_wp2_with fail
     refine hK.out _ _ ?_ (fun hHeld10 => ?_)
     ·exact (unhide D1).2.2.1.S 1
     clear hK K
     try simp only [Act.put, qqA, qqB, qqC]
     refine wpAnyH_ready (rs := [1, 12]) (by kernel_rfl) (by simp) ?_
     refine AllReadyH.cons (o := oSrcR5) rfl (fun K hK => ?_) (AllReadyH.cons (o := oSrcR12) rfl (fun K hK => ?_) AllReadyH.nil)
     ·have kz := (unhide D1).2.2.1.S
      go_simp
      refine hK.out _ _ ?_ (fun hHeld1 => ?_)
      ·exact (unhide D1).2.2.1.S 1
      clear hK K
      try simp only [Act.put, qqA, qqB, qqC]
      clear kz
      refine wpAnyH_ready (rs := [12]) (by kernel_rfl) (by simp) ?_
      refine AllReadyH.cons (o := oSrcR12) rfl (fun K hK => ?_) AllReadyH.nil
      go_simp
      refine (snextI 2 g a cap lc _ _ (by omega) (by omega) hl (by omega) (unhide Q1) v1 (unhide D1).1 ((unhide HR).grown (unhide D1).2.1 (unhide HGN)) (unhide HGN)).mono ?_
      rintro e v2 ⟨y, s2, rfl, hy, hs, hA, hG⟩
      have D2 := hide ((unhide D1).nx hG hA hgP hgr hgl)
      have Q2 := hide hs
      clear hA hG hs D1 Q1
      go_wp2_with fail
      refine hK.out _ _ ?_ (fun hHeld12 => ?_)
      ·exact (unhide D2).2.2.1.S 1
      clear hK K
      try simp only [Act.put, qqA, qqB, qqC]
      refine wtv 13 (oi := oSrcR13) ?_
      obtain ⟨z, hz⟩ : ∃ z : Int, z = x * y := ⟨_, rfl⟩
      have hz1 := cut_bd hx hy hz
      rw [← hz, show IntKind.i64.wrap z = z from wrapi _ (by omega) (by omega)]
      clear hz
      refine wtv 14 (oi := oSrcR14) ?_
      obtain ⟨k2, hk2⟩ : ∃ k2 : Nat, (k2 : Int) = (n0 : Int) - z := ⟨((n0 : Int) - z).toNat, by omega⟩
      rw [← hk2, show IntKind.i64.wrap (k2 : Int) = (k2 : Int) from wrapi _ (by omega) (by omega)]
      have hk2n : k2 ≤ n0 := by omega
      have hk2i : (k2 : Int) ≤ (vc : Int) := by have := own_capQ (unhide D2).2.2.2.2.1; omega
      clear hk2
      refine wtv 15 (oi := oSrcR15) ?_
      refine wtv 16 (oi := oSrcR16) ?_
      refine wpAnyH_ready (rs := [17]) (by kernel_rfl) (by simp) ?_
      refine AllReadyH.cons (o := oSrcR17) rfl (fun K hK => ?_) AllReadyH.nil
      have kp := (unhide D2).2.2.1.S
      have kpf := (unhide D2).2.2.1.F
      have D7 := hide ((unhide D2).cut hgP hPr hwP k2 hk2n)
      go_simp
      refine hK.out _ _ ?_ (fun hHeld17 => ?_)
      ·exact (unhide D7).2.2.1.S 1
      clear hK K
      try simp only [Act.put, qqA, qqB, qqC]
      refine wpAnyH_done (by kernel_rfl) ?_ _
      clear kp kpf D2
      exact ⟨x, y, z, k2, rfl, hk2n, _, _, by omega, Q2, D7⟩
     ·go_simp
      refine (snextI 2 g a cap lc _ _ (by omega) (by omega) hl (by omega) (unhide Q1) v1 (unhide D1).1 ((unhide HR).grown (unhide D1).2.1 (unhide HGN)) (unhide HGN)).mono ?_
      rintro e v2 ⟨y, s2, rfl, hy, hs, hA, hG⟩
      have D2 := hide ((unhide D1).nx hG hA hgP hgr hgl)
      have Q2 := hide hs
      clear hA hG hs D1 Q1
      go_wp2_with fail
      refine hK.out _ _ ?_ (fun hHeld12 => ?_)
      ·exact (unhide D2).2.2.1.S 1
      clear hK K
      try simp only [Act.put, qqA, qqB, qqC]
      refine wtv 13 (oi := oSrcR13) ?_
      obtain ⟨z, hz⟩ : ∃ z : Int, z = x * y := ⟨_, rfl⟩
      have hz1 := cut_bd hx hy hz
      rw [← hz, show IntKind.i64.wrap z = z from wrapi _ (by omega) (by omega)]
      clear hz
      refine wtv 14 (oi := oSrcR14) ?_
      obtain ⟨k2, hk2⟩ : ∃ k2 : Nat, (k2 : Int) = (n0 : Int) - z := ⟨((n0 : Int) - z).toNat, by omega⟩
      rw [← hk2, show IntKind.i64.wrap (k2 : Int) = (k2 : Int) from wrapi _ (by omega) (by omega)]
      have hk2n : k2 ≤ n0 := by omega
      have hk2i : (k2 : Int) ≤ (vc : Int) := by have := own_capQ (unhide D2).2.2.2.2.1; omega
      clear hk2
      refine wpAnyH_ready (rs := [1]) (by kernel_rfl) (by simp) ?_
      refine AllReadyH.cons (o := oSrcR5) rfl (fun K hK => ?_) AllReadyH.nil
      have kz := (unhide D2).2.2.1.S
      go_simp
      refine hK.out _ _ ?_ (fun hHeld1 => ?_)
      ·exact (unhide D2).2.2.1.S 1
      clear hK K
      try simp only [Act.put, qqA, qqB, qqC]
      clear kz
      refine wtv 15 (oi := oSrcR15) ?_
      refine wtv 16 (oi := oSrcR16) ?_
      refine wpAnyH_ready (rs := [17]) (by kernel_rfl) (by simp) ?_
      refine AllReadyH.cons (o := oSrcR17) rfl (fun K hK => ?_) AllReadyH.nil
      have kp := (unhide D2).2.2.1.S
      have kpf := (unhide D2).2.2.1.F
      have D7 := hide ((unhide D2).cut hgP hPr hwP k2 hk2n)
      go_simp
      refine hK.out _ _ ?_ (fun hHeld17 => ?_)
      ·exact (unhide D7).2.2.1.S 1
      clear hK K
      try simp only [Act.put, qqA, qqB, qqC]
      refine wpAnyH_done (by kernel_rfl) ?_ _
      clear kp kpf D2
      exact ⟨x, y, z, k2, rfl, hk2n, _, _, by omega, Q2, D7⟩
   ·go_simp
    refine (snextA (n0 + 1) g a cap lc _ _ (by omega) (by omega) hl (by omega) (unhide Q0) v0 (unhide D0).1 ((unhide HR).grown (unhide D0).2.1 (unhide HGN)) (unhide HGN)).mono ?_
    rintro e v1 ⟨x, p5, s1, rfl, hx, hp5, hs, hA, hG⟩
    have D1 := hide ((unhide D0).nx hG hA hgP hgr hgl)
    have Q1 := hide hs
    clear hA hG hs D0 Q0
    go_wp2_with fail
    refine hK.out _ _ ?_ (fun hHeld10 => ?_)
    ·exact (unhide D1).2.2.1.S 1
    clear hK K
    try simp only [Act.put, qqA, qqB, qqC]
    refine wpAnyH_ready (rs := [1, 3, 12]) (by kernel_rfl) (by simp) ?_
    refine AllReadyH.cons (o := oSrcR5) rfl (fun K hK => ?_) (AllReadyH.cons (o := oSrcR6) rfl (fun K hK => ?_) (AllReadyH.cons (o := oSrcR12) rfl (fun K hK => ?_) AllReadyH.nil))
    ·have kz := (unhide D1).2.2.1.S
     go_simp
     refine hK.out _ _ ?_ (fun hHeld1 => ?_)
     ·exact (unhide D1).2.2.1.S 1
     clear hK K
     try simp only [Act.put, qqA, qqB, qqC]
     clear kz
     refine wpAnyH_ready (rs := [3, 12]) (by kernel_rfl) (by simp) ?_
     refine AllReadyH.cons (o := oSrcR6) rfl (fun K hK => ?_) (AllReadyH.cons (o := oSrcR12) rfl (fun K hK => ?_) AllReadyH.nil)
     ·have kz := (unhide D1).2.2.1.S
      go_simp
      refine hK.out _ _ ?_ (fun hHeld3 => ?_)
      ·exact (unhide D1).2.2.1.S 1
      clear hK K
      try simp only [Act.put, qqA, qqB, qqC]
      clear kz
      refine wtv 4 (oi := oSrcR8) ?_
      refine wpAnyH_ready (rs := [12]) (by kernel_rfl) (by simp) ?_
      refine AllReadyH.cons (o := oSrcR12) rfl (fun K hK => ?_) AllReadyH.nil
      go_simp
      refine (snextI 2 g a cap lc _ _ (by omega) (by omega) hl (by omega) (unhide Q1) v1 (unhide D1).1 ((unhide HR).grown (unhide D1).2.1 (unhide HGN)) (unhide HGN)).mono ?_
      rintro e v2 ⟨y, s2, rfl, hy, hs, hA, hG⟩
      have D2 := hide ((unhide D1).nx hG hA hgP hgr hgl)
      have Q2 := hide hs
      clear hA hG hs D1 Q1
      go_wp2_with fail
      refine hK.out _ _ ?_ (fun hHeld12 => ?_)
      ·exact (unhide D2).2.2.1.S 1
      clear hK K
      try simp only [Act.put, qqA, qqB, qqC]
      refine wtv 13 (oi := oSrcR13) ?_
      obtain ⟨z, hz⟩ : ∃ z : Int, z = x * y := ⟨_, rfl⟩
      have hz1 := cut_bd hx hy hz
      rw [← hz, show IntKind.i64.wrap z = z from wrapi _ (by omega) (by omega)]
      clear hz
      refine wtv 14 (oi := oSrcR14) ?_
      obtain ⟨k2, hk2⟩ : ∃ k2 : Nat, (k2 : Int) = (n0 : Int) - z := ⟨((n0 : Int) - z).toNat, by omega⟩
      rw [← hk2, show IntKind.i64.wrap (k2 : Int) = (k2 : Int) from wrapi _ (by omega) (by omega)]
      have hk2n : k2 ≤ n0 := by omega
      have hk2i : (k2 : Int) ≤ (vc : Int) := by have := own_capQ (unhide D2).2.2.2.2.1; omega
      clear hk2
      refine wtv 15 (oi := oSrcR15) ?_
      refine wtv 16 (oi := oSrcR16) ?_
      refine wpAnyH_ready (rs := [17]) (by kernel_rfl) (by simp) ?_
      refine AllReadyH.cons (o := oSrcR17) rfl (fun K hK => ?_) AllReadyH.nil
      have kp := (unhide D2).2.2.1.S
      have kpf := (unhide D2).2.2.1.F
      have D7 := hide ((unhide D2).cut hgP hPr hwP k2 hk2n)
      go_simp
      refine hK.out _ _ ?_ (fun hHeld17 => ?_)
      ·exact (unhide D7).2.2.1.S 1
      clear hK K
      try simp only [Act.put, qqA, qqB, qqC]
      refine wpAnyH_done (by kernel_rfl) ?_ _
      clear kp kpf D2
      exact ⟨x, y, z, k2, rfl, hk2n, _, _, by omega, Q2, D7⟩
     ·go_simp
      refine (snextI 2 g a cap lc _ _ (by omega) (by omega) hl (by omega) (unhide Q1) v1 (unhide D1).1 ((unhide HR).grown (unhide D1).2.1 (unhide HGN)) (unhide HGN)).mono ?_
      rintro e v2 ⟨y, s2, rfl, hy, hs, hA, hG⟩
      have D2 := hide ((unhide D1).nx hG hA hgP hgr hgl)
      have Q2 := hide hs
      clear hA hG hs D1 Q1
      go_wp2_with fail
      refine hK.out _ _ ?_ (fun hHeld12 => ?_)
      ·exact (unhide D2).2.2.1.S 1
      clear hK K
      try simp only [Act.put, qqA, qqB, qqC]
      refine wtv 13 (oi := oSrcR13) ?_
      obtain ⟨z, hz⟩ : ∃ z : Int, z = x * y := ⟨_, rfl⟩
      have hz1 := cut_bd hx hy hz
      rw [← hz, show IntKind.i64.wrap z = z from wrapi _ (by omega) (by omega)]
      clear hz
      refine wpAnyH_ready (rs := [3]) (by kernel_rfl) (by simp) ?_
      refine AllReadyH.cons (o := oSrcR6) rfl (fun K hK => ?_) AllReadyH.nil
      have kz := (unhide D2).2.2.1.S
      go_simp
      refine hK.out _ _ ?_ (fun hHeld3 => ?_)
      ·exact (unhide D2).2.2.1.S 1
      clear hK K
      try simp only [Act.put, qqA, qqB, qqC]
      clear kz
      refine wtv 4 (oi := oSrcR8) ?_
      refine wtv 14 (oi := oSrcR14) ?_
      obtain ⟨k2, hk2⟩ : ∃ k2 : Nat, (k2 : Int) = (n0 : Int) - z := ⟨((n0 : Int) - z).toNat, by omega⟩
      rw [← hk2, show IntKind.i64.wrap (k2 : Int) = (k2 : Int) from wrapi _ (by omega) (by omega)]
      have hk2n : k2 ≤ n0 := by omega
      have hk2i : (k2 : Int) ≤ (vc : Int) := by have := own_capQ (unhide D2).2.2.2.2.1; omega
      clear hk2
      refine wtv 15 (oi := oSrcR15) ?_
      refine wtv 16 (oi := oSrcR16) ?_
      refine wpAnyH_ready (rs := [17]) (by kernel_rfl) (by simp) ?_
      refine AllReadyH.cons (o := oSrcR17) rfl (fun K hK => ?_) AllReadyH.nil
      have kp := (unhide D2).2.2.1.S
      have kpf := (unhide D2).2.2.1.F
      have D7 := hide ((unhide D2).cut hgP hPr hwP k2 hk2n)
      go_simp
      refine hK.out _ _ ?_ (fun hHeld17 => ?_)
      ·exact (unhide D7).2.2.1.S 1
      clear hK K
      try simp only [Act.put, qqA, qqB, qqC]
      refine wpAnyH_done (by kernel_rfl) ?_ _
      clear kp kpf D2
      exact ⟨x, y, z, k2, rfl, hk2n, _, _, by omega, Q2, D7⟩
    ·have kz := (unhide D1).2.2.1.S
     go_simp
     refine hK.out _ _ ?_ (fun hHeld3 => ?_)
     ·exact (unhide D1).2.2.1.S 1
     clear hK K
     try simp only [Act.put, qqA, qqB, qqC]
     clear kz
     refine wtv 4 (oi := oSrcR8) ?_
     refine wpAnyH_ready (rs := [1, 12]) (by kernel_rfl) (by simp) ?_
     refine AllReadyH.cons (o := oSrcR5) rfl (fun K hK => ?_) (AllReadyH.cons (o := oSrcR12) rfl (fun K hK => ?_) AllReadyH.nil)
     ·have kz := (unhide D1).2.2.1.S
      go_simp
      refine hK.out _ _ ?_ (fun hHeld1 => ?_)
      ·exact (unhide D1).2.2.1.S 1
      clear hK K
      try simp only [Act.put, qqA, qqB, qqC]
      clear kz
      refine wpAnyH_ready (rs := [12]) (by kernel_rfl) (by simp) ?_
      refine AllReadyH.cons (o := oSrcR12) rfl (fun K hK => ?_) AllReadyH.nil
      go_simp
      refine (snextI 2 g a cap lc _ _ (by omega) (by omega) hl (by omega) (unhide Q1) v1 (unhide D1).1 ((unhide HR).grown (unhide D1).2.1 (unhide HGN)) (unhide HGN)).mono ?_
      rintro e v2 ⟨y, s2, rfl, hy, hs, hA, hG⟩
      have D2 := hide ((unhide D1).nx hG hA hgP hgr hgl)
      have Q2 := hide hs
      clear hA hG hs D1 Q1
      go_wp2_with fail
      refine hK.out _ _ ?_ (fun hHeld12 => ?_)
      ·exact (unhide D2).2.2.1.S 1
      clear hK K
      try simp only [Act.put, qqA, qqB, qqC]
      refine wtv 13 (oi := oSrcR13) ?_
      obtain ⟨z, hz⟩ : ∃ z : Int, z = x * y := ⟨_, rfl⟩
      have hz1 := cut_bd hx hy hz
      rw [← hz, show IntKind.i64.wrap z = z from wrapi _ (by omega) (by omega)]
      clear hz
      refine wtv 14 (oi := oSrcR14) ?_
      obtain ⟨k2, hk2⟩ : ∃ k2 : Nat, (k2 : Int) = (n0 : Int) - z := ⟨((n0 : Int) - z).toNat, by omega⟩
      rw [← hk2, show IntKind.i64.wrap (k2 : Int) = (k2 : Int) from wrapi _ (by omega) (by omega)]
      have hk2n : k2 ≤ n0 := by omega
      have hk2i : (k2 : Int) ≤ (vc : Int) := by have := own_capQ (unhide D2).2.2.2.2.1; omega
      clear hk2
      refine wtv 15 (oi := oSrcR15) ?_
      refine wtv 16 (oi := oSrcR16) ?_
      refine wpAnyH_ready (rs := [17]) (by kernel_rfl) (by simp) ?_
      refine AllReadyH.cons (o := oSrcR17) rfl (fun K hK => ?_) AllReadyH.nil
      have kp := (unhide D2).2.2.1.S
      have kpf := (unhide D2).2.2.1.F
      have D7 := hide ((unhide D2).cut hgP hPr hwP k2 hk2n)
      go_simp
      refine hK.out _ _ ?_ (fun hHeld17 => ?_)
      ·exact (unhide D7).2.2.1.S 1
      clear hK K
      try simp only [Act.put, qqA, qqB, qqC]
      refine wpAnyH_done (by kernel_rfl) ?_ _
      clear kp kpf D2
      exact ⟨x, y, z, k2, rfl, hk2n, _, _, by omega, Q2, D7⟩
     ·go_simp
      refine (snextI 2 g a cap lc _ _ (by omega) (by omega) hl (by omega) (unhide Q1) v1 (unhide D1).1 ((unhide HR).grown (unhide D1).2.1 (unhide HGN)) (unhide HGN)).mono ?_
      rintro e v2 ⟨y, s2, rfl, hy, hs, hA, hG⟩
      have D2 := hide ((unhide D1).nx hG hA hgP hgr hgl)
      have Q2 := hide hs
      clear hA hG hs D1 Q1
      go_wp2_with fail
      refine hK.out _ _ ?_ (fun hHeld12 => ?_)
      ·exact (unhide D2).2.2.1.S 1
      clear hK K
      try simp only [Act.put, qqA, qqB, qqC]
      refine wtv 13 (oi := oSrcR13) ?_
      obtain ⟨z, hz⟩ : ∃ z : Int, z = x * y := ⟨_, rfl⟩
      have hz1 := cut_bd hx hy hz
      rw [← hz, show IntKind.i64.wrap z = z from wrapi _ (by omega) (by omega)]
      clear hz
      refine wtv 14 (oi := oSrcR14) ?_
      obtain ⟨k2, hk2⟩ : ∃ k2 : Nat, (k2 : Int) = (n0 : Int) - z := ⟨((n0 : Int) - z).toNat, by omega⟩
      rw [← hk2, show IntKind.i64.wrap (k2 : Int) = (k2 : Int) from wrapi _ (by omega) (by omega)]
      have hk2n : k2 ≤ n0 := by omega
      have hk2i : (k2 : Int) ≤ (vc : Int) := by have := own_capQ (unhide D2).2.2.2.2.1; omega
      clear hk2
      refine wpAnyH_ready (rs := [1]) (by kernel_rfl) (by simp) ?_
      refine AllReadyH.cons (o := oSrcR5) rfl (fun K hK => ?_) AllReadyH.nil
      have kz := (unhide D2).2.2.1.S
      go_simp
      refine hK.out _ _ ?_ (fun hHeld1 => ?_)
      ·exact (unhide D2).2.2.1.S 1
      clear hK K
      try simp only [Act.put, qqA, qqB, qqC]
      clear kz
      refine wtv 15 (oi := oSrcR15) ?_
      refine wtv 16 (oi := oSrcR16) ?_
      refine wpAnyH_ready (rs := [17]) (by kernel_rfl) (by simp) ?_
      refine AllReadyH.cons (o := oSrcR17) rfl (fun K hK => ?_) AllReadyH.nil
      have kp := (unhide D2).2.2.1.S
      have kpf := (unhide D2).2.2.1.F
      have D7 := hide ((unhide D2).cut hgP hPr hwP k2 hk2n)
      go_simp
      refine hK.out _ _ ?_ (fun hHeld17 => ?_)
      ·exact (unhide D7).2.2.1.S 1
      clear hK K
      try simp only [Act.put, qqA, qqB, qqC]
      refine wpAnyH_done (by kernel_rfl) ?_ _
      clear kp kpf D2
      exact ⟨x, y, z, k2, rfl, hk2n, _, _, by omega, Q2, D7⟩
    ·go_simp
     refine (snextI 2 g a cap lc _ _ (by omega) (by omega) hl (by omega) (unhide Q1) v1 (unhide D1).1 ((unhide HR).grown (unhide D1).2.1 (unhide HGN)) (unhide HGN)).mono ?_
     rintro e v2 ⟨y, s2, rfl, hy, hs, hA, hG⟩
     have D2 := hide ((unhide D1).nx hG hA hgP hgr hgl)
     have Q2 := hide hs
     clear hA hG hs D1 Q1
     go_wp2_with fail
     refine hK.out _ _ ?_ (fun hHeld12 => ?_)
     ·exact (unhide D2).2.2.1.S 1
     clear hK K
     try simp only [Act.put, qqA, qqB, qqC]
     refine wtv 13 (oi := oSrcR13) ?_
     obtain ⟨z, hz⟩ : ∃ z : Int, z = x * y := ⟨_, rfl⟩
     have hz1 := cut_bd hx hy hz
     rw [← hz, show IntKind.i64.wrap z = z from wrapi _ (by omega) (by omega)]
     clear hz
     refine wpAnyH_ready (rs := [1, 3]) (by kernel_rfl) (by simp) ?_
     refine AllReadyH.cons (o := oSrcR5) rfl (fun K hK => ?_) (AllReadyH.cons (o := oSrcR6) rfl (fun K hK => ?_) AllReadyH.nil)
     ·have kz := (unhide D2).2.2.1.S
      go_simp
      refine hK.out _ _ ?_ (fun hHeld1 => ?_)
      ·exact (unhide D2).2.2.1.S 1
      clear hK K
      try simp only [Act.put, qqA, qqB, qqC]
      clear kz
      refine wpAnyH_ready (rs := [3]) (by kernel_rfl) (by simp) ?_
      refine AllReadyH.cons (o := oSrcR6) rfl (fun K hK => ?_) AllReadyH.nil
      have kz := (unhide D2).2.2.1.S
      go_simp
      refine hK.out _ _ ?_ (fun hHeld3 => ?_)
      ·exact (unhide D2).2.2.1.S 1
      clear hK K
      try simp only [Act.put, qqA, qqB, qqC]
      clear kz
      refine wtv 4 (oi := oSrcR8) ?_
      refine wtv 14 (oi := oSrcR14) ?_
      obtain ⟨k2, hk2⟩ : ∃ k2 : Nat, (k2 : Int) = (n0 : Int) - z := ⟨((n0 : Int) - z).toNat, by omega⟩
      rw [← hk2, show IntKind.i64.wrap (k2 : Int) = (k2 : Int) from wrapi _ (by omega) (by omega)]
      have hk2n : k2 ≤ n0 := by omega
      have hk2i : (k2 : Int) ≤ (vc : Int) := by have := own_capQ (unhide D2).2.2.2.2.1; omega
      clear hk2
      refine wtv 15 (oi := oSrcR15) ?_
      refine wtv 16 (oi := oSrcR16) ?_
      refine wpAnyH_ready (rs := [17]) (by kernel_rfl) (by simp) ?_
      refine AllReadyH.cons (o := oSrcR17) rfl (fun K hK => ?_) AllReadyH.nil
      have kp := (unhide D2).2.2.1.S
      have kpf := (unhide D2).2.2.1.F
      have D7 := hide ((unhide D2).cut hgP hPr hwP k2 hk2n)
      go_simp
      refine hK.out _ _ ?_ (fun hHeld17 => ?_)
      ·exact (unhide D7).2.2.1.S 1
      clear hK K
      try simp only [Act.put, qqA, qqB, qqC]
      refine wpAnyH_done (by kernel_rfl) ?_ _
      clear kp kpf D2
      exact ⟨x, y, z, k2, rfl, hk2n, _, _, by omega, Q2, D7⟩
     ·have kz := (unhide D2).2.2.1.S
      go_simp
      refine hK.out _ _ ?_ (fun hHeld3 => ?_)
      ·exact (unhide D2).2.2.1.S 1
      clear hK K
      try simp only [Act.put, qqA, qqB, qqC]
      clear kz
      refine wtv 4 (oi := oSrcR8) ?_
      refine wtv 14 (oi := oSrcR14) ?_
      obtain ⟨k2, hk2⟩ : ∃ k2 : Nat, (k2 : Int) = (n0 : Int) - z := ⟨((n0 : Int) - z).toNat, by omega⟩
      rw [← hk2, show IntKind.i64.wrap (k2 : Int) = (k2 : Int) from wrapi _ (by omega) (by omega)]
      have hk2n : k2 ≤ n0 := by omega
      have hk2i : (k2 : Int) ≤ (vc : Int) := by have := own_capQ (unhide D2).2.2.2.2.1; omega
      clear hk2
      refine wpAnyH_ready (rs := [1]) (by kernel_rfl) (by simp) ?_
      refine AllReadyH.cons (o := oSrcR5) rfl (fun K hK => ?_) AllReadyH.nil
      have kz := (unhide D2).2.2.1.S
      go_simp
      refine hK.out _ _ ?_ (fun hHeld1 => ?_)
      ·exact (unhide D2).2.2.1.S 1
      clear hK K
      try simp only [Act.put, qqA, qqB, qqC]
      clear kz
      refine wtv 15 (oi := oSrcR15) ?_
      refine wtv 16 (oi := oSrcR16) ?_
      refine wpAnyH_ready (rs := [17]) (by kernel_rfl) (by simp) ?_
      refine AllReadyH.cons (o := oSrcR17) rfl (fun K hK => ?_) AllReadyH.nil
      have kp := (unhide D2).2.2.1.S
      have kpf := (unhide D2).2.2.1.F
      have D7 := hide ((unhide D2).cut hgP hPr hwP k2 hk2n)
      go_simp
      refine hK.out _ _ ?_ (fun hHeld17 => ?_)
      ·exact (unhide D7).2.2.1.S 1
      clear hK K
      try simp only [Act.put, qqA, qqB, qqC]
      refine wpAnyH_done (by kernel_rfl) ?_ _
      clear kp kpf D2
      exact ⟨x, y, z, k2, rfl, hk2n, _, _, by omega, Q2, D7⟩
 intro x a' w7 h
 cases x
 all_goals try exact False.elim h
 obtain ⟨x1, x2, x3, n, rfl, hn, p3, s3, hp3, Q3, D3⟩ := h
 clear D0 Q0
 obtain ⟨tm, htm⟩ : ∃ t, t = tm0 + b := ⟨_, rfl⟩
 have HTM : Hid (tm0 ≤ tm ∧ tm ≤ tm0 + 1) := by show _ ∧ _; omega
 have htm5 : 0 ≤ tm := by omega
 have HL1 : Hid (logB tm 1 (l0.take n) = true ∧ ∀ e ∈ l0.take n, e.1 ≤ tm) := by
  have h1 : logB tm 1 l0 = true := logB_mono (by omega) (unhide HL0)
  have h2 := logB_take n h1
  refine ⟨h2, fun e he => ?_⟩
  obtain ⟨i, hi, rfl⟩ := List.getElem_of_mem he
  exact (log_ent (Int.le_refl 1) h2 i hi).1.2
 rw [← htm] at D3 ⊢
 have HTM2 := hide htm
 clear htm
 go_wp2_with fail
 refine (snextI 3 g a cap lc p3 s3 (by decide) (by decide) hl (by have := unhide HP1; omega) (unhide Q3) w7 (unhide D3).1 ((unhide HR).grown (unhide D3).2.1 (unhide HGN)) (unhide HGN)).mono ?_
 rintro e w8 ⟨x, s4, rfl, hx, hs4, hA, hG⟩
 have D4 := hide ((unhide D3).nx hG hA hgP hgr hgl)
 have Q4 := hide hs4
 have hp5 : p3 ≤ p + 4 := by have := unhide HP1; omega
 clear hA hG hs4 D3 Q3 hp2 hp3
 go_wp2_with fail
 go_loopw [6] (fun i wr => ∃ (k p1 s1 : Nat) (va : Option Addr) (n vc : Nat) (l : List Ent), i = .int .i64 (k : Int) ∧ n + k ≤ n0 + 2 ∧ p1 + 2 * k ≤ p + 40 ∧ Hid (Som va) ∧ Hid (s1 < 2147483648) ∧ Hid (Ds w g P (w.heap.size + 1) w.heap.size #[.int .i64 0, .int .i64 0, .slice none 0 0] a cap lc tm vt va n vc l p1 s1 wr) ∧ Hid (logB tm 1 l = true ∧ ∀ e ∈ l, e.1 ≤ tm)) (fun i _ => (intOf i).toNat)
 case atStart => exact ⟨x.toNat, p3 + 1, s4, va, n, vc, l0.take n, (by rw [Int.toNat_of_nonneg hx.1]), by omega, by omega, HVA, Q4, D4, HL1⟩
 case round =>
  clear Q4 D4 HL1 HVA
  obtain ⟨k, p1, s0, va, n, vc, l, rfl, hk, hp1, HVA, Q0, D0, HL⟩ := hrel
  by_cases h0 : 0 < k
  ·have h0' : 0 < (k : Int) := by omega
   have kz := (unhide D0).2.2.1.S
   by_cases htz : 0 < tm
   ·go_wp2_with fail
    clear kz
    refine wp_region_held_drew (S := fun w' => w'.cell? ⟨P, 0, none⟩ = some (.int .i64 tm)) (by kernel_rfl) ((unhide D0).2.2.1.S 0) (fun hHeld => ?_)
    have D0q := hide (unhide D0).drew
    clear D0
    generalize wr.drew = v0 at D0q hHeld ⊢
    have D0 := D0q
    clear D0q
    refine wtv 0 (oi := { dst := some 47, op := .fieldAddr 25 (.tmp 5) 2, type := 0, pos := "l07_store.go:223", after := #[], guard := none }) ?_
    refine wtv 2 (oi := { dst := some 49, op := .move (.tmp 0), type := 45, pos := "l07_store.go:223", after := #[], guard := none }) ?_
    refine wtv 3 (oi := { dst := some 50, op := .fieldAddr 25 (.tmp 5) 0, type := 0, pos := "l07_store.go:223", after := #[], guard := none }) ?_
    refine wtv 4 (oi := { dst := some 51, op := .load 3 (.tmp 50), type := 3, pos := "l07_store.go:223", after := #[{ on := 3, ground := .data }], guard := none }) ?_
    refine wpAnyH_ready (rs := [1, 5]) (by kernel_rfl) (by simp) ?_
    refine AllReadyH.cons (o := oSrcR18) rfl (fun K hK => ?_) (AllReadyH.cons (o := oSrcR19) rfl (fun K hK => ?_) AllReadyH.nil)
    ·have kz := (unhide D0).2.2.1.S
     go_simp
     refine hK.out _ _ ?_ (fun hHeld1 => ?_)
     ·exact (unhide D0).2.2.1.S 0
     clear hK K
     try simp only [Act.put, qqA, qqB, qqC]
     clear kz
     refine wpAnyH_ready (rs := [5]) (by kernel_rfl) (by simp) ?_
     refine AllReadyH.cons (o := oSrcR19) rfl (fun K hK => ?_) AllReadyH.nil
     go_simp
     refine (sentryD tm g a cap lc _ _ hl (by omega) (unhide Q0) v0 (unhide D0).1 ((unhide HR).grown (unhide D0).2.1 (unhide HGN)) (unhide HGN)).mono ?_
     rintro e v1 ⟨d, s1, rfl, hd, hs, hA, hG⟩
     have D1 := hide ((unhide D0).nx hG hA hgP hgr hgl)
     have Q1 := hide hs
     clear hA hG hs D0 Q0
     go_wp2_with fail
     refine hK.out _ _ ?_ (fun hHeld5 => ?_)
     ·exact (unhide D1).2.2.1.S 0
     clear hK K
     try simp only [Act.put, qqA, qqB, qqC]
     refine wpAnyH_ready (rs := [6]) (by kernel_rfl) (by simp) ?_
     refine AllReadyH.cons (o := oSrcR20) rfl (fun K hK => ?_) AllReadyH.nil
     obtain ⟨G, hG⟩ : ∃ G, G = v1.heap.size := ⟨_, rfl⟩
     have hb6 : Below v1.heap.size v1 (v1.alloc (.cells #[.int .i64 tm, .string d] 62)) := Go.Joins.below_alloc1 v1 (.cells #[.int .i64 tm, .string d] 62)
     have D2 := hide ((unhide D1).bl hb6)
     have R6 := hide (BF.new v1 #[.int .i64 tm, .string d] 62)
     rw [← hG] at R6
     go_simp
     refine hK.out _ _ ?_ (fun hHeld6 => ?_)
     ·exact (unhide D2).2.2.1.S 0
     clear hK K
     try simp only [Act.put, qqA, qqB, qqC]
     rw [← hG]
     clear hb6 hG D1
     generalize v1.alloc (.cells #[.int .i64 tm, .string d] 62) = v2 at R6 D2 hHeld6 ⊢
     have Q2 := Q1
     clear Q1
     refine wpAnyH_ready (rs := [7]) (by kernel_rfl) (by simp) ?_
     refine AllReadyH.cons (o := oSrcR21) rfl (fun K hK => ?_) AllReadyH.nil
     refine step_append_lies v2 rfl (.tmp 48) (.tmp 53) 23 rfl w.heap.size 62 i0 (.agg #[.int .i64 0, .string ⟨#[]⟩]) 2 24 Tryd.underlying23 hi hz0 hz1 hz2 rfl (by decide) (.slice va n vc) n (cE l) rfl (unhide D2).2.2.2.2.1 ⟨G, 0, none⟩ 1 1 [.int .i64 tm, .string d] rfl rfl (by intro j u hj; have e := (unhide R6).S j; rw [show (⟨G, 0, none⟩ : Addr).add j = ⟨G, j, none⟩ from (by unfold Addr.add; split <;> simp_all)]; rw [e]; simpa using hj) (by intro u hu; simp at hu; rcases hu with rfl | rfl <;> rfl) (by decide) (by unfold maxLen; omega) (by omega) (unhide D2).2.1.size _ rfl ?_
     intro g7 c7 v7 ho7 hg7 hat7 hlt7
     obtain ⟨hP7, hD7⟩ := (unhide D2).put hgP hPr hwP hgl (Nat.le_refl _) (x := (tm, d)) ho7 hg7 hat7 rfl
     have P7 := hide hP7
     have D7 := hide hD7
     clear ho7 hg7 hat7 hlt7 hP7 hD7 R6 D2
     refine hK.out _ _ ?_ (fun hHeld7 => ?_)
     ·exact (unhide P7).S 0
     clear hK K
     try simp only [Act.put, qqA, qqB, qqC]
     refine wtv 8 (oi := oSrcR22) ?_
     refine wpAnyH_ready (rs := [9]) (by kernel_rfl) (by simp) ?_
     refine AllReadyH.cons (o := oSrcR23) rfl (fun K hK => ?_) AllReadyH.nil
     have kp := (unhide P7).S
     have kpf := (unhide P7).F
     go_simp
     refine hK.out _ _ ?_ (fun hHeld9 => ?_)
     ·exact (unhide D7).2.2.1.S 0
     clear hK K
     try simp only [Act.put, qqA, qqB, qqC]
     refine wpAnyH_done (by kernel_rfl) ?_ _
     clear kp kpf P7
     go_wp2_with fail
     go_roundw
     case rel => exact ⟨k - 1, _, _, some ⟨g7, 0, none⟩, n + 1, c7, l ++ [(tm, d)], by go_num, by omega, by omega, ⟨g7, rfl⟩, Q2, D7, logB_snoc2 (unhide HL) (Int.le_refl _) (by omega) (Int.le_refl _) hd⟩
     case measure => simp [intOf]; omega
    ·go_simp
     refine (sentryD tm g a cap lc _ _ hl (by omega) (unhide Q0) v0 (unhide D0).1 ((unhide HR).grown (unhide D0).2.1 (unhide HGN)) (unhide HGN)).mono ?_
     rintro e v1 ⟨d, s1, rfl, hd, hs, hA, hG⟩
     have D1 := hide ((unhide D0).nx hG hA hgP hgr hgl)
     have Q1 := hide hs
     clear hA hG hs D0 Q0
     go_wp2_with fail
     refine hK.out _ _ ?_ (fun hHeld5 => ?_)
     ·exact (unhide D1).2.2.1.S 0
     clear hK K
     try simp only [Act.put, qqA, qqB, qqC]
     refine wpAnyH_ready (rs := [1, 6]) (by kernel_rfl) (by simp) ?_
     refine AllReadyH.cons (o := oSrcR18) rfl (fun K hK => ?_) (AllReadyH.cons (o := oSrcR20) rfl (fun K hK => ?_) AllReadyH.nil)
     ·have kz := (unhide D1).2.2.1.S
      go_simp
      refine hK.out _ _ ?_ (fun hHeld1 => ?_)
      ·exact (unhide D1).2.2.1.S 0
      clear hK K
      try simp only [Act.put, qqA, qqB, qqC]
      clear kz
      refine wpAnyH_ready (rs := [6]) (by kernel_rfl) (by simp) ?_
      refine AllReadyH.cons (o := oSrcR20) rfl (fun K hK => ?_) AllReadyH.nil
      obtain ⟨G, hG⟩ : ∃ G, G = v1.heap.size := ⟨_, rfl⟩
      have hb6 : Below v1.heap.size v1 (v1.alloc (.cells #[.int .i64 tm, .string d] 62)) := Go.Joins.below_alloc1 v1 (.cells #[.int .i64 tm, .string d] 62)
      have D2 := hide ((unhide D1).bl hb6)
      have R6 := hide (BF.new v1 #[.int .i64 tm, .string d] 62)
      rw [← hG] at R6
      go_simp
      refine hK.out _ _ ?_ (fun hHeld6 => ?_)
      ·exact (unhide D2).2.2.1.S 0
      clear hK K
      try simp only [Act.put, qqA, qqB, qqC]
      rw [← hG]
      clear hb6 hG D1
      generalize v1.alloc (.cells #[.int .i64 tm, .string d] 62) = v2 at R6 D2 hHeld6 ⊢
      have Q2 := Q1
      clear Q1
      refine wpAnyH_ready (rs := [7]) (by kernel_rfl) (by simp) ?_
      refine AllReadyH.cons (o := oSrcR21) rfl (fun K hK => ?_) AllReadyH.nil
      refine step_append_lies v2 rfl (.tmp 48) (.tmp 53) 23 rfl w.heap.size 62 i0 (.agg #[.int .i64 0, .string ⟨#[]⟩]) 2 24 Tryd.underlying23 hi hz0 hz1 hz2 rfl (by decide) (.slice va n vc) n (cE l) rfl (unhide D2).2.2.2.2.1 ⟨G, 0, none⟩ 1 1 [.int .i64 tm, .string d] rfl rfl (by intro j u hj; have e := (unhide R6).S j; rw [show (⟨G, 0, none⟩ : Addr).add j = ⟨G, j, none⟩ from (by unfold Addr.add; split <;> simp_all)]; rw [e]; simpa using hj) (by intro u hu; simp at hu; rcases hu with rfl | rfl <;> rfl) (by decide) (by unfold maxLen; omega) (by omega) (unhide D2).2.1.size _ rfl ?_
      intro g7 c7 v7 ho7 hg7 hat7 hlt7
      obtain ⟨hP7, hD7⟩ := (unhide D2).put hgP hPr hwP hgl (Nat.le_refl _) (x := (tm, d)) ho7 hg7 hat7 rfl
      have P7 := hide hP7
      have D7 := hide hD7
      clear ho7 hg7 hat7 hlt7 hP7 hD7 R6 D2
      refine hK.out _ _ ?_ (fun hHeld7 => ?_)
      ·exact (unhide P7).S 0
      clear hK K
      try simp only [Act.put, qqA, qqB, qqC]
      refine wtv 8 (oi := oSrcR22) ?_
      refine wpAnyH_ready (rs := [9]) (by kernel_rfl) (by simp) ?_
      refine AllReadyH.cons (o := oSrcR23) rfl (fun K hK => ?_) AllReadyH.nil
      have kp := (unhide P7).S
      have kpf := (unhide P7).F
      go_simp
      refine hK.out _ _ ?_ (fun hHeld9 => ?_)
      ·exact (unhide D7).2.2.1.S 0
      clear hK K
      try simp only [Act.put, qqA, qqB, qqC]
      refine wpAnyH_done (by kernel_rfl) ?_ _
      clear kp kpf P7
      go_wp2_with fail
      go_roundw
      case rel => exact ⟨k - 1, _, _, some ⟨g7, 0, none⟩, n + 1, c7, l ++ [(tm, d)], by go_num, by omega, by omega, ⟨g7, rfl⟩, Q2, D7, logB_snoc2 (unhide HL) (Int.le_refl _) (by omega) (Int.le_refl _) hd⟩
      case measure => simp [intOf]; omega
     ·obtain ⟨G, hG⟩ : ∃ G, G = v1.heap.size := ⟨_, rfl⟩
      have hb6 : Below v1.heap.size v1 (v1.alloc (.cells #[.int .i64 tm, .string d] 62)) := Go.Joins.below_alloc1 v1 (.cells #[.int .i64 tm, .string d] 62)
      have D2 := hide ((unhide D1).bl hb6)
      have R6 := hide (BF.new v1 #[.int .i64 tm, .string d] 62)
      rw [← hG] at R6
      go_simp
      refine hK.out _ _ ?_ (fun hHeld6 => ?_)
      ·exact (unhide D2).2.2.1.S 0
      clear hK K
      try simp only [Act.put, qqA, qqB, qqC]
      rw [← hG]
      clear hb6 hG D1
      generalize v1.alloc (.cells #[.int .i64 tm, .string d] 62) = v2 at R6 D2 hHeld6 ⊢
      have Q2 := Q1
      clear Q1
      refine wpAnyH_ready (rs := [1]) (by kernel_rfl) (by simp) ?_
      refine AllReadyH.cons (o := oSrcR18) rfl (fun K hK => ?_) AllReadyH.nil
      have kz := (unhide D2).2.2.1.S
      go_simp
      refine hK.out _ _ ?_ (fun hHeld1 => ?_)
      ·exact (unhide D2).2.2.1.S 0
      clear hK K
      try simp only [Act.put, qqA, qqB, qqC]
      clear kz
      refine wpAnyH_ready (rs := [7]) (by kernel_rfl) (by simp) ?_
      refine AllReadyH.cons (o := oSrcR21) rfl (fun K hK => ?_) AllReadyH.nil
      refine step_append_lies v2 rfl (.tmp 48) (.tmp 53) 23 rfl w.heap.size 62 i0 (.agg #[.int .i64 0, .string ⟨#[]⟩]) 2 24 Tryd.underlying23 hi hz0 hz1 hz2 rfl (by decide) (.slice va n vc) n (cE l) rfl (unhide D2).2.2.2.2.1 ⟨G, 0, none⟩ 1 1 [.int .i64 tm, .string d] rfl rfl (by intro j u hj; have e := (unhide R6).S j; rw [show (⟨G, 0, none⟩ : Addr).add j = ⟨G, j, none⟩ from (by unfold Addr.add; split <;> simp_all)]; rw [e]; simpa using hj) (by intro u hu; simp at hu; rcases hu with rfl | rfl <;> rfl) (by decide) (by unfold maxLen; omega) (by omega) (unhide D2).2.1.size _ rfl ?_
      intro g7 c7 v7 ho7 hg7 hat7 hlt7
      obtain ⟨hP7, hD7⟩ := (unhide D2).put hgP hPr hwP hgl (Nat.le_refl _) (x := (tm, d)) ho7 hg7 hat7 rfl
      have P7 := hide hP7
      have D7 := hide hD7
      clear ho7 hg7 hat7 hlt7 hP7 hD7 R6 D2
      refine hK.out _ _ ?_ (fun hHeld7 => ?_)
      ·exact (unhide P7).S 0
      clear hK K
      try simp only [Act.put, qqA, qqB, qqC]
      refine wtv 8 (oi := oSrcR22) ?_
      refine wpAnyH_ready (rs := [9]) (by kernel_rfl) (by simp) ?_
      refine AllReadyH.cons (o := oSrcR23) rfl (fun K hK => ?_) AllReadyH.nil
      have kp := (unhide P7).S
      have kpf := (unhide P7).F
      go_simp
      refine hK.out _ _ ?_ (fun hHeld9 => ?_)
      ·exact (unhide D7).2.2.1.S 0
      clear hK K
      try simp only [Act.put, qqA, qqB, qqC]
      refine wpAnyH_done (by kernel_rfl) ?_ _
      clear kp kpf P7
      go_wp2_with fail
      go_roundw
      case rel => exact ⟨k - 1, _, _, some ⟨g7, 0, none⟩, n + 1, c7, l ++ [(tm, d)], by go_num, by omega, by omega, ⟨g7, rfl⟩, Q2, D7, logB_snoc2 (unhide HL) (Int.le_refl _) (by omega) (Int.le_refl _) hd⟩
      case measure => simp [intOf]; omega
   ·have kr := (unhide D0).2.2.2.1.S
    have krf := (unhide D0).2.2.2.1.F
    go_wp2_with fail
    refine bodyPost_ret (v := .agg #[.int .i64 tm, .int .i64 vt, .slice va n vc]) (by simp [results, Tryd.results15, go_sem, kr]) rfl ⟨tm, vt, va, n, vc, rfl, l, (unhide D0).2.2.2.2.2.2, by omega, unhide HTM, hvt0, (unhide HL).1, unhide HVA, ?_, grown_set (grown_set (grown_set (unhide D0).2.1 (Nat.le_succ _) 0 _) (Nat.le_succ _) 1 _) (Nat.le_succ _) 2 _⟩
    refine own_keepG (unhide D0).2.2.2.2.1 (fun j hj => ?_)
    have hne := ((unhide D0).2.2.2.2.2.1 j hj).2
    exact (Below.heap_setCell _ _ _ _ hne).trans ((Below.heap_setCell _ _ _ _ hne).trans (Below.heap_setCell _ _ _ _ hne))
  ·have h0' : ¬ 0 < (k : Int) := by omega
   have kz := (unhide D0).2.2.1.S
   have kr := (unhide D0).2.2.2.1.S
   have krf := (unhide D0).2.2.2.1.F
   go_wp2_with fail
   refine bodyPost_ret (v := .agg #[.int .i64 tm, .int .i64 vt, .slice va n vc]) (by simp [results, Tryd.results15, go_sem, kr]) rfl ⟨tm, vt, va, n, vc, rfl, l, (unhide D0).2.2.2.2.2.2, by omega, unhide HTM, hvt0, (unhide HL).1, unhide HVA, ?_, grown_set (grown_set (grown_set (unhide D0).2.1 (Nat.le_succ _) 0 _) (Nat.le_succ _) 1 _) (Nat.le_succ _) 2 _⟩
   refine own_keepG (unhide D0).2.2.2.2.1 (fun j hj => ?_)
   have hne := ((unhide D0).2.2.2.2.2.1 j hj).2
   exact (Below.heap_setCell _ _ _ _ hne).trans ((Below.heap_setCell _ _ _ _ hne).trans (Below.heap_setCell _ _ _ _ hne))
end Go.Proofs.YtamjljhbnhdgdaaDoor
