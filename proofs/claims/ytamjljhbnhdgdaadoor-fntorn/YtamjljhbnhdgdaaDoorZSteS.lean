/- Which states are right: what the specification answers. -/
import Derived.Test.YtamjljhbnhdgdaaDoorZG3
import Derived.Test.YtamjljhbnhdgdaaDoorZInS
import Derived.Test.YtamjljhbnhdgdaaDoorZG7
import Derived.Lib.SmallJoins
namespace Go.Proofs.YtamjljhbnhdgdaaDoor
open Go.ChangeShapes Go.WideShapes Go.ChangeAt Go.RowKit
set_option linter.unusedVariables false
abbrev oSteS0 : Oper := { dst := some 27, op := .fieldAddr 25 (.tmp 1) 2, type := 0, pos := "l07_store.go:13", after := #[], guard := none }
abbrev oSteS1 : Oper := { dst := some 28, op := .load 23 (.tmp 27), type := 23, pos := "l07_store.go:13", after := #[{ on := 0, ground := .data }], guard := none }
abbrev oSteS2 : Oper := { dst := some 29, op := .move (.tmp 3), type := 3, pos := "l07_store.go:13", after := #[], guard := none }
abbrev oSteS3 : Oper := { dst := some 30, op := .indexAddr 23 (.tmp 28) (.tmp 29), type := 0, pos := "l07_store.go:13", after := #[{ on := 1, ground := .data }, { on := 2, ground := .data }], guard := none }
abbrev oSteS4 : Oper := { dst := some 31, op := .load 62 (.tmp 30), type := 62, pos := "l07_store.go:13", after := #[{ on := 3, ground := .data }], guard := none }
abbrev oSteS5 : Oper := { dst := some 32, op := .call { callee := .value (.func 32), args := #[.tmp 31], argTypes := #[62] }, type := 4, pos := "l07_store.go:13", after := #[{ on := 4, ground := .data }], guard := none }
abbrev oSteS6 : Oper := { dst := some 33, op := .unOp .not 4 (.tmp 32), type := 4, pos := "l07_store.go:13", after := #[{ on := 5, ground := .data }], guard := none }
abbrev oSteS7 : Oper := { dst := some 34, op := .move (.tmp 33), type := 4, pos := "l07_store.go:13", after := #[{ on := 6, ground := .data }, { on := 5, ground := .chain }], guard := none }
abbrev oSteS8 : Oper := { dst := some 35, op := .fieldAddr 25 (.tmp 1) 2, type := 0, pos := "l07_store.go:13", after := #[{ on := 7, ground := .guard }], guard := some (7, false) }
abbrev oSteS9 : Oper := { dst := some 36, op := .load 23 (.tmp 35), type := 23, pos := "l07_store.go:13", after := #[{ on := 8, ground := .data }, { on := 7, ground := .guard }], guard := some (7, false) }
abbrev oSteS10 : Oper := { dst := some 37, op := .move (.tmp 3), type := 3, pos := "l07_store.go:13", after := #[{ on := 7, ground := .guard }], guard := some (7, false) }
abbrev oSteS11 : Oper := { dst := some 38, op := .indexAddr 23 (.tmp 36) (.tmp 37), type := 0, pos := "l07_store.go:13", after := #[{ on := 9, ground := .data }, { on := 10, ground := .data }, { on := 7, ground := .guard }], guard := some (7, false) }
abbrev oSteS12 : Oper := { dst := some 39, op := .fieldAddr 62 (.tmp 38) 0, type := 0, pos := "l07_store.go:13", after := #[{ on := 11, ground := .data }, { on := 7, ground := .guard }], guard := some (7, false) }
abbrev oSteS13 : Oper := { dst := some 40, op := .load 3 (.tmp 39), type := 3, pos := "l07_store.go:13", after := #[{ on := 12, ground := .data }, { on := 7, ground := .guard }], guard := some (7, false) }
abbrev oSteS14 : Oper := { dst := some 41, op := .fieldAddr 25 (.tmp 1) 0, type := 0, pos := "l07_store.go:13", after := #[{ on := 7, ground := .guard }], guard := some (7, false) }
abbrev oSteS15 : Oper := { dst := some 42, op := .load 3 (.tmp 41), type := 3, pos := "l07_store.go:13", after := #[{ on := 14, ground := .data }, { on := 7, ground := .guard }], guard := some (7, false) }
abbrev oSteS16 : Oper := { dst := some 43, op := .binOp .gtr 3 (.tmp 40) (.tmp 42) 3, type := 4, pos := "l07_store.go:13", after := #[{ on := 13, ground := .data }, { on := 15, ground := .data }, { on := 7, ground := .guard }], guard := some (7, false) }
abbrev oSteS17 : Oper := { dst := some 44, op := .pick (.tmp 34) (.const (.bool true)) (.tmp 43), type := 4, pos := "l07_store.go:13", after := #[{ on := 7, ground := .data }, { on := 16, ground := .data }], guard := none }
abbrev oSteS18 : Oper := { dst := some 45, op := .move (.tmp 44), type := 4, pos := "l07_store.go:13", after := #[{ on := 17, ground := .data }, { on := 7, ground := .chain }], guard := none }
abbrev oSteS19 : Oper := { dst := some 46, op := .move (.tmp 3), type := 3, pos := "l07_store.go:13", after := #[{ on := 18, ground := .guard }], guard := some (18, false) }
abbrev oSteS20 : Oper := { dst := some 47, op := .binOp .gtr 3 (.tmp 46) (.const (.int .i64 0)) 3, type := 4, pos := "l07_store.go:13", after := #[{ on := 19, ground := .data }, { on := 18, ground := .guard }], guard := some (18, false) }
abbrev oSteS21 : Oper := { dst := some 48, op := .move (.tmp 47), type := 4, pos := "l07_store.go:13", after := #[{ on := 20, ground := .data }, { on := 18, ground := .chain }, { on := 18, ground := .guard }], guard := some (18, false) }
abbrev oSteS22 : Oper := { dst := some 49, op := .fieldAddr 25 (.tmp 1) 2, type := 0, pos := "l07_store.go:13", after := #[{ on := 21, ground := .guard }], guard := some (21, true) }
abbrev oSteS23 : Oper := { dst := some 50, op := .load 23 (.tmp 49), type := 23, pos := "l07_store.go:13", after := #[{ on := 22, ground := .data }, { on := 21, ground := .guard }], guard := some (21, true) }
abbrev oSteS24 : Oper := { dst := some 51, op := .move (.tmp 3), type := 3, pos := "l07_store.go:13", after := #[{ on := 21, ground := .guard }], guard := some (21, true) }
abbrev oSteS25 : Oper := { dst := some 52, op := .binOp .sub 3 (.tmp 51) (.const (.int .i64 1)) 3, type := 3, pos := "l07_store.go:13", after := #[{ on := 24, ground := .data }, { on := 21, ground := .guard }], guard := some (21, true) }
abbrev oSteS26 : Oper := { dst := some 53, op := .indexAddr 23 (.tmp 50) (.tmp 52), type := 0, pos := "l07_store.go:13", after := #[{ on := 23, ground := .data }, { on := 25, ground := .data }, { on := 21, ground := .guard }], guard := some (21, true) }
abbrev oSteS27 : Oper := { dst := some 54, op := .fieldAddr 62 (.tmp 53) 0, type := 0, pos := "l07_store.go:13", after := #[{ on := 26, ground := .data }, { on := 21, ground := .guard }], guard := some (21, true) }
abbrev oSteS28 : Oper := { dst := some 55, op := .load 3 (.tmp 54), type := 3, pos := "l07_store.go:13", after := #[{ on := 27, ground := .data }, { on := 21, ground := .guard }], guard := some (21, true) }
abbrev oSteS29 : Oper := { dst := some 56, op := .fieldAddr 25 (.tmp 1) 2, type := 0, pos := "l07_store.go:13", after := #[{ on := 21, ground := .guard }], guard := some (21, true) }
abbrev oSteS30 : Oper := { dst := some 57, op := .load 23 (.tmp 56), type := 23, pos := "l07_store.go:13", after := #[{ on := 29, ground := .data }, { on := 21, ground := .guard }], guard := some (21, true) }
abbrev oSteS31 : Oper := { dst := some 58, op := .move (.tmp 3), type := 3, pos := "l07_store.go:13", after := #[{ on := 21, ground := .guard }], guard := some (21, true) }
abbrev oSteS32 : Oper := { dst := some 59, op := .indexAddr 23 (.tmp 57) (.tmp 58), type := 0, pos := "l07_store.go:13", after := #[{ on := 30, ground := .data }, { on := 31, ground := .data }, { on := 21, ground := .guard }], guard := some (21, true) }
abbrev oSteS33 : Oper := { dst := some 60, op := .fieldAddr 62 (.tmp 59) 0, type := 0, pos := "l07_store.go:13", after := #[{ on := 32, ground := .data }, { on := 21, ground := .guard }], guard := some (21, true) }
abbrev oSteS34 : Oper := { dst := some 61, op := .load 3 (.tmp 60), type := 3, pos := "l07_store.go:13", after := #[{ on := 33, ground := .data }, { on := 21, ground := .guard }], guard := some (21, true) }
abbrev oSteS35 : Oper := { dst := some 62, op := .binOp .gtr 3 (.tmp 55) (.tmp 61) 3, type := 4, pos := "l07_store.go:13", after := #[{ on := 28, ground := .data }, { on := 34, ground := .data }, { on := 21, ground := .guard }], guard := some (21, true) }
abbrev oSteS36 : Oper := { dst := some 63, op := .pick (.tmp 48) (.tmp 62) (.const (.bool false)), type := 4, pos := "l07_store.go:13", after := #[{ on := 21, ground := .data }, { on := 35, ground := .data }, { on := 18, ground := .guard }], guard := some (18, false) }
abbrev oSteS37 : Oper := { dst := some 64, op := .pick (.tmp 45) (.const (.bool true)) (.tmp 63), type := 4, pos := "l07_store.go:13", after := #[{ on := 18, ground := .data }, { on := 36, ground := .data }], guard := none }
set_option maxHeartbeats 1000000 in
set_option maxRecDepth 100000 in
theorem sentry (t : Int) (d : ByteArray) (sz : Nat) (hsz : sz = d.size ∧ sz ≤ 1048576) (E : Bool) (HE : Hid (E = entB 1 1000 (t, d))) (w : World) :
  Calls Tryd.prog 32 #[.agg #[.int .i64 t, .string d]] w fun e w' => e = .returned (.bool E) ∧ Below w.heap.size w w' := by
 have B0 := hide (Go.Joins.below_alloc1 w (.cells #[.int .i64 t, .string d] 62))
 obtain ⟨h1, h2⟩ := hsz
 have la : (d.size : Int) = (sz : Int) := by rw [h1]
 have HE2 := unhide HE
 unfold entB at HE2
 rw [← h1] at HE2
 have HE3 := hide HE2
 clear HE HE2 h1
 cases h : inB t 1 1000 with
 | false =>
  have hE : E = false := by have := unhide HE3; rw [h] at this; simpa using this
  subst hE
  go_enter Tryd.func32, Tryd.ntmps32
  go_wp2_with fail
  refine (sin t 1 1000 _).mono ?_
  rintro e w1 ⟨rfl, rfl⟩
  rw [h]
  go_wp2_with fail
  go_ret
  exact ⟨rfl, unhide B0⟩
 | true =>
  by_cases h4 : sz ≤ 400
  ·have hE : E = true := by have := unhide HE3; rw [h, decide_eq_true h4] at this; simpa using this
   subst hE
   go_enter Tryd.func32, Tryd.ntmps32
   go_wp2_with fail
   refine (sin t 1 1000 _).mono ?_
   rintro e w1 ⟨rfl, rfl⟩
   rw [h]
   go_wp2_with fail
   go_ret
   exact ⟨ret_bool (decide_eq_true (by omega)), unhide B0⟩
  ·have hE : E = false := by have := unhide HE3; rw [h, decide_eq_false h4] at this; simpa using this
   subst hE
   go_enter Tryd.func32, Tryd.ntmps32
   go_wp2_with fail
   refine (sin t 1 1000 _).mono ?_
   rintro e w1 ⟨rfl, rfl⟩
   rw [h]
   go_wp2_with fail
   go_ret
   exact ⟨ret_bool (decide_eq_false (by omega)), unhide B0⟩
theorem ent_no {q T : Int} {t : Int} {d : ByteArray} {R b : Bool} (hR : R = (entB q T (t, d) && b)) (h : entB q T (t, d) = false) : R = false := by rw [hR, h]; rfl
theorem ent_bad {q T t : Int} {d : ByteArray} (hq : 1 ≤ q) (hT : T ≤ 1000) (h : entB 1 1000 (t, d) = false) : entB q T (t, d) = false := by
 cases hh : entB q T (t, d) with
 | false => rfl
 | true => unfold entB inB at h hh; simp at h hh; omega
theorem ent_high {q T t : Int} {d : ByteArray} (h : T < t) : entB q T (t, d) = false := by unfold entB inB; simp; omega
theorem ent_low {q T t : Int} {d : ByteArray} (h : t < q) : entB q T (t, d) = false := by unfold entB inB; simp; omega
theorem ent_ok {q T t : Int} {d : ByteArray} (h : entB 1 1000 (t, d) = true) (h1 : t ≤ T) (h2 : q ≤ t) : entB q T (t, d) = true ∧ 1 ≤ t := by unfold entB inB at *; simp at h ⊢; omega
set_option maxHeartbeats 2000000 in
set_option maxRecDepth 100000 in
theorem sstateok (tm vt : Int) (a : Option Addr) (cap n : Nat) (l : List Ent) (HN : Hid (l.length = n)) (hn : n ≤ 1048576) (HSZ : Hid (∀ k (h : k < l.length), l[k].2.size ≤ 1048576)) (R : Bool) (HR : Hid (R = stateB tm vt l)) (w : World) (hr : RowV w a (cE l)) :
  Calls Tryd.prog 16 #[.agg #[.int .i64 tm, .int .i64 vt, .slice a n cap]] w fun e w' => e = .returned (.bool R) ∧ Below w.heap.size w w' := by
 have B0 := hide (Go.Joins.below_alloc1 w (.cells #[.int .i64 tm, .int .i64 vt, .slice a n cap] 25))
 have A0 := hide (BF.new w #[.int .i64 tm, .int .i64 vt, .slice a n cap] 25)
 have HRW := hide hr
 have HCL := hide (cE_len l)
 clear hr
 go_enter Tryd.func16, Tryd.ntmps16
 cases h1 : inB tm 0 1000 with
 | false =>
  go_wp2_with fail
  refine (sin tm 0 1000 _).mono ?_
  rintro e w1 ⟨rfl, rfl⟩
  rw [h1]
  have hR : R = false := (unhide HR).trans (st1 h1)
  subst hR
  go_wp2_with fail
  go_ret
  exact ⟨rfl, unhide B0⟩
 | true =>
  cases h2 : inB vt (-1) 4 with
  | false =>
   go_wp2_with fail
   refine (sin tm 0 1000 _).mono ?_
   rintro e w1 ⟨rfl, rfl⟩
   rw [h1]
   go_wp2_with fail
   refine (sin vt (-1) 4 _).mono ?_
   rintro e w1 ⟨rfl, rfl⟩
   rw [h2]
   have hR : R = false := (unhide HR).trans (st2 h2)
   subst hR
   go_wp2_with fail
   go_ret
   exact ⟨rfl, unhide B0⟩
  | true =>
   by_cases h6 : n ≤ 60
   ·have HR4 : Hid (R = logB tm 1 (l.drop 0)) := by show _ = _; rw [List.drop_zero]; exact (unhide HR).trans (st4 h1 h2 (by rw [unhide HN]; exact h6))
    have hT : tm ≤ 1000 := (of_decide_eq_true h1).2
    go_wp2_with fail
    refine (sin tm 0 1000 _).mono ?_
    rintro e w1 ⟨rfl, rfl⟩
    rw [h1]
    go_wp2_with fail
    refine (sin vt (-1) 4 _).mono ?_
    rintro e w1 ⟨rfl, rfl⟩
    rw [h2]
    clear HR h1 h2
    go_wp2_with fail
    go_loopw [3] (fun i wr => ∃ (k : Nat) (q : Int), k ≤ n ∧ i = .int .i64 k ∧ Hid (q = prevT l k) ∧ 1 ≤ q ∧ Hid (R = logB tm q (l.drop k)) ∧ Hid (BF w.heap.size #[.int .i64 tm, .int .i64 vt, .slice a n cap] wr) ∧ Hid (Below w.heap.size w wr)) (fun i _ => n - (intOf i).toNat)
    case atStart => exact ⟨0, 1, by omega, rfl, (prevT_zero l).symm, by omega, HR4, A0, B0⟩
    case round =>
     clear A0 B0 HR4
     obtain ⟨k, q, hk, rfl, HP, h1q, HQ, A1, B1⟩ := hrel
     have a1 := (unhide A1).S
     by_cases hlt : k < n
     ·obtain ⟨b, off, ha, hblt, hc⟩ := (unhide HRW).at (by rw [unhide HCL, unhide HN]; omega)
      subst ha
      have hlk : k < l.length := by rw [unhide HN]; exact hlt
      obtain ⟨x0, x1⟩ := row_ent hc k hlk
      obtain ⟨t, et⟩ : ∃ t, t = l[k].1 := ⟨_, rfl⟩
      obtain ⟨d, ed⟩ : ∃ d, d = l[k].2 := ⟨_, rfl⟩
      obtain ⟨sz, hsz⟩ : ∃ sz : Nat, sz = d.size := ⟨_, rfl⟩
      have HSD : Hid (sz = d.size ∧ sz ≤ 1048576) := ⟨hsz, by rw [hsz, ed]; exact unhide HSZ k hlk⟩
      have hq := (unhide HQ).trans (logB_step tm q l k hlk)
      rw [show l[k] = (t, d) from by rw [et, ed]] at hq
      have HQ2 := hide hq
      have HP2 : Hid (t = prevT l (k + 1)) := by show _ = _; rw [prevT_succ l k hlk]; exact et
      rw [← et] at x0
      rw [← ed] at x1
      have hx0 : wr.cell? ⟨b, off + k * 2, none⟩ = some (.int .i64 t) := ((unhide B1).cell (p := ⟨b, off + k * 2, none⟩) hblt).trans x0
      have hx1 : wr.cell? ⟨b, off + k * 2 + 1, none⟩ = some (.string d) := ((unhide B1).cell (p := ⟨b, off + k * 2 + 1, none⟩) hblt).trans x1
      have hbw : b < wr.heap.size := Nat.lt_of_lt_of_le hblt (unhide B1).size
      have hlt' : (k : Int) < (n : Int) := by omega
      have hlt0 : (0 : Int) ≤ (k : Int) := by omega
      obtain ⟨E, hE⟩ : ∃ E, E = entB 1 1000 (t, d) := ⟨_, rfl⟩
      have HE := hide hE
      have k1 : (∀ o, wr.cell? ⟨w.heap.size, o, none⟩ = (#[.int .i64 tm, .int .i64 vt, .slice (some ⟨b, off, none⟩) n cap] : Array Value)[o]?) ∧ wr.cell? ⟨b, off + k * 2, none⟩ = some (.int .i64 t) ∧ wr.cell? ⟨b, off + k * 2 + 1, none⟩ = some (.string d) := ⟨a1, hx0, hx1⟩
      clear hE
      cases hE : E with
      | false =>
       clear hc x0 x1 et ed hsz hq HQ HRW HCL HSZ hx0 hx1
       go_wp2_with fail
       refine wp_region_held_drew (S := fun w' => (∀ o, w'.cell? ⟨w.heap.size, o, none⟩ = (#[.int .i64 tm, .int .i64 vt, .slice (some ⟨b, off, none⟩) n cap] : Array Value)[o]?) ∧ w'.cell? ⟨b, off + k * 2, none⟩ = some (.int .i64 t) ∧ w'.cell? ⟨b, off + k * 2 + 1, none⟩ = some (.string d)) (by kernel_rfl) k1 (fun hHeld => ?_)
       refine wtv 0 (oi := oSteS0) ?_
       refine wtv 1 (oi := oSteS1) ?_
       refine wtv 2 (oi := oSteS2) ?_
       refine wtv 3 (oi := oSteS3) ?_
       refine wtv 4 (oi := oSteS4) ?_
       refine wpAnyH_ready (rs := [5]) (by kernel_rfl) (by simp) ?_
       refine AllReadyH.cons (o := oSteS5) rfl (fun K hK => ?_) AllReadyH.nil
       go_simp
       refine (sentry t d sz (unhide HSD) E HE _).mono ?_
       rintro e w2 ⟨rfl, hb2⟩
       have hz2 := hb2.size
       simp only [World.size_drew] at hz2
       have k2 : (∀ o, w2.cell? ⟨w.heap.size, o, none⟩ = (#[.int .i64 tm, .int .i64 vt, .slice (some ⟨b, off, none⟩) n cap] : Array Value)[o]?) ∧ w2.cell? ⟨b, off + k * 2, none⟩ = some (.int .i64 t) ∧ w2.cell? ⟨b, off + k * 2 + 1, none⟩ = some (.string d) := by
        have h := below_undrew hb2
        exact ⟨fun o => (h.cell (p := ⟨w.heap.size, o, none⟩) (unhide A1).lt).trans (k1.1 o), (h.cell (p := ⟨b, off + k * 2, none⟩) hbw).trans k1.2.1, (h.cell (p := ⟨b, off + k * 2 + 1, none⟩) hbw).trans k1.2.2⟩
       have A2 := hide ((unhide A1).drew.below hb2)
       have B2 := hide ((unhide B1).trans ((below_undrew hb2).mono (unhide B1).size))
       clear hb2 hz2
       rw [hE]
       go_wp2_with fail
       refine hK.out _ _ ?_ (fun hHeld5 => ?_)
       ·exact k2
       clear hK K
       try simp only [Act.put, qqA, qqB, qqC]
       refine wtv 6 (oi := oSteS6) ?_
       refine wtv 7 (oi := oSteS7) ?_
       refine wtu 8 (oi := oSteS8) ?_
       refine wtu 9 (oi := oSteS9) ?_
       refine wtu 10 (oi := oSteS10) ?_
       refine wtu 11 (oi := oSteS11) ?_
       refine wtu 12 (oi := oSteS12) ?_
       refine wtu 13 (oi := oSteS13) ?_
       refine wtu 14 (oi := oSteS14) ?_
       refine wtu 15 (oi := oSteS15) ?_
       refine wtu 16 (oi := oSteS16) ?_
       refine wtv 17 (oi := oSteS17) ?_
       refine wtv 18 (oi := oSteS18) ?_
       refine wtu 19 (oi := oSteS19) ?_
       refine wtu 20 (oi := oSteS20) ?_
       refine wtu 21 (oi := oSteS21) ?_
       refine wtu 22 (oi := oSteS22) ?_
       refine wtu 23 (oi := oSteS23) ?_
       refine wtu 24 (oi := oSteS24) ?_
       refine wtu 25 (oi := oSteS25) ?_
       refine wtu 26 (oi := oSteS26) ?_
       refine wtu 27 (oi := oSteS27) ?_
       refine wtu 28 (oi := oSteS28) ?_
       refine wtu 29 (oi := oSteS29) ?_
       refine wtu 30 (oi := oSteS30) ?_
       refine wtu 31 (oi := oSteS31) ?_
       refine wtu 32 (oi := oSteS32) ?_
       refine wtu 33 (oi := oSteS33) ?_
       refine wtu 34 (oi := oSteS34) ?_
       refine wtu 35 (oi := oSteS35) ?_
       refine wtu 36 (oi := oSteS36) ?_
       refine wtv 37 (oi := oSteS37) ?_
       refine wpAnyH_done (by kernel_rfl) ?_ _
       clear k1 k2
       have hR : R = false := ent_no (unhide HQ2) (ent_bad h1q hT ((unhide HE).symm.trans hE))
       subst hR
       go_wp2_with fail
       go_ret
       exact ⟨rfl, unhide B2⟩
      | true =>
       by_cases hh : t ≤ tm
       ·by_cases hk0 : k = 0
        ·have q1 : q = 1 := by rw [unhide HP, hk0]; exact prevT_zero l
         have hkpos : decide (0 < k) = false := decide_eq_false (by omega)
         obtain ⟨hent, h1t⟩ := ent_ok ((unhide HE).symm.trans hE) hh (by have : 1 ≤ t := (ent_ok (q := t) (T := t) ((unhide HE).symm.trans hE) (Int.le_refl _) (Int.le_refl _)).2; omega : q ≤ t)
         have HQ3 : Hid (R = logB tm t (l.drop (k + 1))) := by show _ = _; have := unhide HQ2; rw [hent] at this; simpa using this
         have hgt : decide (tm < t) = false := decide_eq_false (by omega)
         clear hc x0 x1 et ed hsz hq HQ HRW HCL HSZ hx0 hx1 HQ2 hent hk0 q1 HP
         go_wp2_with fail
         refine wp_region_held_drew (S := fun w' => (∀ o, w'.cell? ⟨w.heap.size, o, none⟩ = (#[.int .i64 tm, .int .i64 vt, .slice (some ⟨b, off, none⟩) n cap] : Array Value)[o]?) ∧ w'.cell? ⟨b, off + k * 2, none⟩ = some (.int .i64 t) ∧ w'.cell? ⟨b, off + k * 2 + 1, none⟩ = some (.string d)) (by kernel_rfl) k1 (fun hHeld => ?_)
         refine wtv 0 (oi := oSteS0) ?_
         refine wtv 1 (oi := oSteS1) ?_
         refine wtv 2 (oi := oSteS2) ?_
         refine wtv 3 (oi := oSteS3) ?_
         refine wtv 4 (oi := oSteS4) ?_
         refine wpAnyH_ready (rs := [5]) (by kernel_rfl) (by simp) ?_
         refine AllReadyH.cons (o := oSteS5) rfl (fun K hK => ?_) AllReadyH.nil
         go_simp
         refine (sentry t d sz (unhide HSD) E HE _).mono ?_
         rintro e w2 ⟨rfl, hb2⟩
         have hz2 := hb2.size
         simp only [World.size_drew] at hz2
         have k2 : (∀ o, w2.cell? ⟨w.heap.size, o, none⟩ = (#[.int .i64 tm, .int .i64 vt, .slice (some ⟨b, off, none⟩) n cap] : Array Value)[o]?) ∧ w2.cell? ⟨b, off + k * 2, none⟩ = some (.int .i64 t) ∧ w2.cell? ⟨b, off + k * 2 + 1, none⟩ = some (.string d) := by
          have h := below_undrew hb2
          exact ⟨fun o => (h.cell (p := ⟨w.heap.size, o, none⟩) (unhide A1).lt).trans (k1.1 o), (h.cell (p := ⟨b, off + k * 2, none⟩) hbw).trans k1.2.1, (h.cell (p := ⟨b, off + k * 2 + 1, none⟩) hbw).trans k1.2.2⟩
         have A2 := hide ((unhide A1).drew.below hb2)
         have B2 := hide ((unhide B1).trans ((below_undrew hb2).mono (unhide B1).size))
         clear hb2 hz2
         rw [hE]
         go_wp2_with fail
         refine hK.out _ _ ?_ (fun hHeld5 => ?_)
         ·exact k2
         clear hK K
         try simp only [Act.put, qqA, qqB, qqC]
         refine wtv 6 (oi := oSteS6) ?_
         refine wtv 7 (oi := oSteS7) ?_
         refine wtv 8 (oi := oSteS8) ?_
         refine wtv 9 (oi := oSteS9) ?_
         refine wtv 10 (oi := oSteS10) ?_
         refine wtv 11 (oi := oSteS11) ?_
         refine wtv 12 (oi := oSteS12) ?_
         refine wtv 13 (oi := oSteS13) ?_
         refine wtv 14 (oi := oSteS14) ?_
         refine wtv 15 (oi := oSteS15) ?_
         refine wtv 16 (oi := oSteS16) ?_
         refine wtv 17 (oi := oSteS17) ?_
         refine wtv 18 (oi := oSteS18) ?_
         refine wtv 19 (oi := oSteS19) ?_
         refine wtv 20 (oi := oSteS20) ?_
         refine wtv 21 (oi := oSteS21) ?_
         refine wtu 22 (oi := oSteS22) ?_
         refine wtu 23 (oi := oSteS23) ?_
         refine wtu 24 (oi := oSteS24) ?_
         refine wtu 25 (oi := oSteS25) ?_
         refine wtu 26 (oi := oSteS26) ?_
         refine wtu 27 (oi := oSteS27) ?_
         refine wtu 28 (oi := oSteS28) ?_
         refine wtu 29 (oi := oSteS29) ?_
         refine wtu 30 (oi := oSteS30) ?_
         refine wtu 31 (oi := oSteS31) ?_
         refine wtu 32 (oi := oSteS32) ?_
         refine wtu 33 (oi := oSteS33) ?_
         refine wtu 34 (oi := oSteS34) ?_
         refine wtu 35 (oi := oSteS35) ?_
         refine wtv 36 (oi := oSteS36) ?_
         refine wtv 37 (oi := oSteS37) ?_
         refine wpAnyH_done (by kernel_rfl) ?_ _
         clear k1 k2
         clear A1 B1
         go_wp2_with fail
         go_roundw
         case rel => exact ⟨k + 1, t, by omega, by go_num, HP2, h1t, HQ3, A2, B2⟩
         case measure => simp [intOf]; omega
        ·obtain ⟨k1', hk1⟩ : ∃ k1', k = k1' + 1 := ⟨k - 1, by omega⟩
         have hqk : q = l[k1'].1 := by have h := prevT_succ l k1' (by omega); rw [← hk1] at h; exact (unhide HP).trans h
         have hxp : wr.cell? ⟨b, off + k1' * 2, none⟩ = some (.int .i64 q) := by rw [hqk]; exact ((unhide B1).cell (p := ⟨b, off + k1' * 2, none⟩) hblt).trans (row_ent hc k1' (by omega)).1
         have hw1 : IntKind.i64.wrap ((k : Int) - 1) = (k1' : Int) := by rw [wrapi _ (by omega) (by omega)]; omega
         have hk1n : (k1' : Int) < (n : Int) := by omega
         have hk10 : (0 : Int) ≤ (k1' : Int) := by omega
         have hkpos : decide (0 < k) = true := decide_eq_true (by omega)
         have hgt : decide (tm < t) = false := decide_eq_false (by omega)
         have k1 : (∀ o, wr.cell? ⟨w.heap.size, o, none⟩ = (#[.int .i64 tm, .int .i64 vt, .slice (some ⟨b, off, none⟩) n cap] : Array Value)[o]?) ∧ wr.cell? ⟨b, off + k * 2, none⟩ = some (.int .i64 t) ∧ wr.cell? ⟨b, off + k * 2 + 1, none⟩ = some (.string d) ∧ wr.cell? ⟨b, off + k1' * 2, none⟩ = some (.int .i64 q) := ⟨k1.1, k1.2.1, k1.2.2, hxp⟩
         by_cases hpq : q ≤ t
         ·obtain ⟨hent, h1t⟩ := ent_ok ((unhide HE).symm.trans hE) hh hpq
          have HQ3 : Hid (R = logB tm t (l.drop (k + 1))) := by show _ = _; have := unhide HQ2; rw [hent] at this; simpa using this
          have hpd : decide (t < q) = false := decide_eq_false (by omega)
          clear hc x0 x1 et ed hsz hq HQ HRW HCL HSZ hx0 hx1 HQ2 hent hqk hxp HP hk0 hk1
          go_wp2_with fail
          refine wp_region_held_drew (S := fun w' => (∀ o, w'.cell? ⟨w.heap.size, o, none⟩ = (#[.int .i64 tm, .int .i64 vt, .slice (some ⟨b, off, none⟩) n cap] : Array Value)[o]?) ∧ w'.cell? ⟨b, off + k * 2, none⟩ = some (.int .i64 t) ∧ w'.cell? ⟨b, off + k * 2 + 1, none⟩ = some (.string d) ∧ w'.cell? ⟨b, off + k1' * 2, none⟩ = some (.int .i64 q)) (by kernel_rfl) k1 (fun hHeld => ?_)
          refine wtv 0 (oi := oSteS0) ?_
          refine wtv 1 (oi := oSteS1) ?_
          refine wtv 2 (oi := oSteS2) ?_
          refine wtv 3 (oi := oSteS3) ?_
          refine wtv 4 (oi := oSteS4) ?_
          refine wpAnyH_ready (rs := [5]) (by kernel_rfl) (by simp) ?_
          refine AllReadyH.cons (o := oSteS5) rfl (fun K hK => ?_) AllReadyH.nil
          go_simp
          refine (sentry t d sz (unhide HSD) E HE _).mono ?_
          rintro e w2 ⟨rfl, hb2⟩
          have hz2 := hb2.size
          simp only [World.size_drew] at hz2
          have k2 : (∀ o, w2.cell? ⟨w.heap.size, o, none⟩ = (#[.int .i64 tm, .int .i64 vt, .slice (some ⟨b, off, none⟩) n cap] : Array Value)[o]?) ∧ w2.cell? ⟨b, off + k * 2, none⟩ = some (.int .i64 t) ∧ w2.cell? ⟨b, off + k * 2 + 1, none⟩ = some (.string d) ∧ w2.cell? ⟨b, off + k1' * 2, none⟩ = some (.int .i64 q) := by
           have h := below_undrew hb2
           exact ⟨fun o => (h.cell (p := ⟨w.heap.size, o, none⟩) (unhide A1).lt).trans (k1.1 o), (h.cell (p := ⟨b, off + k * 2, none⟩) hbw).trans k1.2.1, (h.cell (p := ⟨b, off + k * 2 + 1, none⟩) hbw).trans k1.2.2.1, (h.cell (p := ⟨b, off + k1' * 2, none⟩) hbw).trans k1.2.2.2⟩
          have A2 := hide ((unhide A1).drew.below hb2)
          have B2 := hide ((unhide B1).trans ((below_undrew hb2).mono (unhide B1).size))
          clear hb2 hz2
          rw [hE]
          go_wp2_with fail
          refine hK.out _ _ ?_ (fun hHeld5 => ?_)
          ·exact k2
          clear hK K
          try simp only [Act.put, qqA, qqB, qqC]
          refine wtv 6 (oi := oSteS6) ?_
          refine wtv 7 (oi := oSteS7) ?_
          refine wtv 8 (oi := oSteS8) ?_
          refine wtv 9 (oi := oSteS9) ?_
          refine wtv 10 (oi := oSteS10) ?_
          refine wtv 11 (oi := oSteS11) ?_
          refine wtv 12 (oi := oSteS12) ?_
          refine wtv 13 (oi := oSteS13) ?_
          refine wtv 14 (oi := oSteS14) ?_
          refine wtv 15 (oi := oSteS15) ?_
          refine wtv 16 (oi := oSteS16) ?_
          refine wtv 17 (oi := oSteS17) ?_
          refine wtv 18 (oi := oSteS18) ?_
          refine wtv 19 (oi := oSteS19) ?_
          refine wtv 20 (oi := oSteS20) ?_
          refine wtv 21 (oi := oSteS21) ?_
          refine wtv 22 (oi := oSteS22) ?_
          refine wtv 23 (oi := oSteS23) ?_
          refine wtv 24 (oi := oSteS24) ?_
          refine wtv 25 (oi := oSteS25) ?_
          refine wtv 26 (oi := oSteS26) ?_
          refine wtv 27 (oi := oSteS27) ?_
          refine wtv 28 (oi := oSteS28) ?_
          refine wtv 29 (oi := oSteS29) ?_
          refine wtv 30 (oi := oSteS30) ?_
          refine wtv 31 (oi := oSteS31) ?_
          refine wtv 32 (oi := oSteS32) ?_
          refine wtv 33 (oi := oSteS33) ?_
          refine wtv 34 (oi := oSteS34) ?_
          refine wtv 35 (oi := oSteS35) ?_
          refine wtv 36 (oi := oSteS36) ?_
          refine wtv 37 (oi := oSteS37) ?_
          refine wpAnyH_done (by kernel_rfl) ?_ _
          clear k1 k2
          clear A1 B1
          go_wp2_with fail
          go_roundw
          case rel => exact ⟨k + 1, t, by omega, by go_num, HP2, h1t, HQ3, A2, B2⟩
          case measure => simp [intOf]; omega
         ·have hpd : decide (t < q) = true := decide_eq_true (by omega)
          clear hc x0 x1 et ed hsz hq HQ HRW HCL HSZ hx0 hx1 hqk hxp HP hk0 hk1
          go_wp2_with fail
          refine wp_region_held_drew (S := fun w' => (∀ o, w'.cell? ⟨w.heap.size, o, none⟩ = (#[.int .i64 tm, .int .i64 vt, .slice (some ⟨b, off, none⟩) n cap] : Array Value)[o]?) ∧ w'.cell? ⟨b, off + k * 2, none⟩ = some (.int .i64 t) ∧ w'.cell? ⟨b, off + k * 2 + 1, none⟩ = some (.string d) ∧ w'.cell? ⟨b, off + k1' * 2, none⟩ = some (.int .i64 q)) (by kernel_rfl) k1 (fun hHeld => ?_)
          refine wtv 0 (oi := oSteS0) ?_
          refine wtv 1 (oi := oSteS1) ?_
          refine wtv 2 (oi := oSteS2) ?_
          refine wtv 3 (oi := oSteS3) ?_
          refine wtv 4 (oi := oSteS4) ?_
          refine wpAnyH_ready (rs := [5]) (by kernel_rfl) (by simp) ?_
          refine AllReadyH.cons (o := oSteS5) rfl (fun K hK => ?_) AllReadyH.nil
          go_simp
          refine (sentry t d sz (unhide HSD) E HE _).mono ?_
          rintro e w2 ⟨rfl, hb2⟩
          have hz2 := hb2.size
          simp only [World.size_drew] at hz2
          have k2 : (∀ o, w2.cell? ⟨w.heap.size, o, none⟩ = (#[.int .i64 tm, .int .i64 vt, .slice (some ⟨b, off, none⟩) n cap] : Array Value)[o]?) ∧ w2.cell? ⟨b, off + k * 2, none⟩ = some (.int .i64 t) ∧ w2.cell? ⟨b, off + k * 2 + 1, none⟩ = some (.string d) ∧ w2.cell? ⟨b, off + k1' * 2, none⟩ = some (.int .i64 q) := by
           have h := below_undrew hb2
           exact ⟨fun o => (h.cell (p := ⟨w.heap.size, o, none⟩) (unhide A1).lt).trans (k1.1 o), (h.cell (p := ⟨b, off + k * 2, none⟩) hbw).trans k1.2.1, (h.cell (p := ⟨b, off + k * 2 + 1, none⟩) hbw).trans k1.2.2.1, (h.cell (p := ⟨b, off + k1' * 2, none⟩) hbw).trans k1.2.2.2⟩
          have A2 := hide ((unhide A1).drew.below hb2)
          have B2 := hide ((unhide B1).trans ((below_undrew hb2).mono (unhide B1).size))
          clear hb2 hz2
          rw [hE]
          go_wp2_with fail
          refine hK.out _ _ ?_ (fun hHeld5 => ?_)
          ·exact k2
          clear hK K
          try simp only [Act.put, qqA, qqB, qqC]
          refine wtv 6 (oi := oSteS6) ?_
          refine wtv 7 (oi := oSteS7) ?_
          refine wtv 8 (oi := oSteS8) ?_
          refine wtv 9 (oi := oSteS9) ?_
          refine wtv 10 (oi := oSteS10) ?_
          refine wtv 11 (oi := oSteS11) ?_
          refine wtv 12 (oi := oSteS12) ?_
          refine wtv 13 (oi := oSteS13) ?_
          refine wtv 14 (oi := oSteS14) ?_
          refine wtv 15 (oi := oSteS15) ?_
          refine wtv 16 (oi := oSteS16) ?_
          refine wtv 17 (oi := oSteS17) ?_
          refine wtv 18 (oi := oSteS18) ?_
          refine wtv 19 (oi := oSteS19) ?_
          refine wtv 20 (oi := oSteS20) ?_
          refine wtv 21 (oi := oSteS21) ?_
          refine wtv 22 (oi := oSteS22) ?_
          refine wtv 23 (oi := oSteS23) ?_
          refine wtv 24 (oi := oSteS24) ?_
          refine wtv 25 (oi := oSteS25) ?_
          refine wtv 26 (oi := oSteS26) ?_
          refine wtv 27 (oi := oSteS27) ?_
          refine wtv 28 (oi := oSteS28) ?_
          refine wtv 29 (oi := oSteS29) ?_
          refine wtv 30 (oi := oSteS30) ?_
          refine wtv 31 (oi := oSteS31) ?_
          refine wtv 32 (oi := oSteS32) ?_
          refine wtv 33 (oi := oSteS33) ?_
          refine wtv 34 (oi := oSteS34) ?_
          refine wtv 35 (oi := oSteS35) ?_
          refine wtv 36 (oi := oSteS36) ?_
          refine wtv 37 (oi := oSteS37) ?_
          refine wpAnyH_done (by kernel_rfl) ?_ _
          clear k1 k2
          have hR : R = false := ent_no (unhide HQ2) (ent_low (by omega))
          subst hR
          go_wp2_with fail
          go_ret
          exact ⟨rfl, unhide B2⟩
       ·have hgt : decide (tm < t) = true := decide_eq_true (by omega)
        clear hc x0 x1 et ed hsz hq HQ HRW HCL HSZ hx0 hx1
        go_wp2_with fail
        refine wp_region_held_drew (S := fun w' => (∀ o, w'.cell? ⟨w.heap.size, o, none⟩ = (#[.int .i64 tm, .int .i64 vt, .slice (some ⟨b, off, none⟩) n cap] : Array Value)[o]?) ∧ w'.cell? ⟨b, off + k * 2, none⟩ = some (.int .i64 t) ∧ w'.cell? ⟨b, off + k * 2 + 1, none⟩ = some (.string d)) (by kernel_rfl) k1 (fun hHeld => ?_)
        refine wtv 0 (oi := oSteS0) ?_
        refine wtv 1 (oi := oSteS1) ?_
        refine wtv 2 (oi := oSteS2) ?_
        refine wtv 3 (oi := oSteS3) ?_
        refine wtv 4 (oi := oSteS4) ?_
        refine wpAnyH_ready (rs := [5]) (by kernel_rfl) (by simp) ?_
        refine AllReadyH.cons (o := oSteS5) rfl (fun K hK => ?_) AllReadyH.nil
        go_simp
        refine (sentry t d sz (unhide HSD) E HE _).mono ?_
        rintro e w2 ⟨rfl, hb2⟩
        have hz2 := hb2.size
        simp only [World.size_drew] at hz2
        have k2 : (∀ o, w2.cell? ⟨w.heap.size, o, none⟩ = (#[.int .i64 tm, .int .i64 vt, .slice (some ⟨b, off, none⟩) n cap] : Array Value)[o]?) ∧ w2.cell? ⟨b, off + k * 2, none⟩ = some (.int .i64 t) ∧ w2.cell? ⟨b, off + k * 2 + 1, none⟩ = some (.string d) := by
         have h := below_undrew hb2
         exact ⟨fun o => (h.cell (p := ⟨w.heap.size, o, none⟩) (unhide A1).lt).trans (k1.1 o), (h.cell (p := ⟨b, off + k * 2, none⟩) hbw).trans k1.2.1, (h.cell (p := ⟨b, off + k * 2 + 1, none⟩) hbw).trans k1.2.2⟩
        have A2 := hide ((unhide A1).drew.below hb2)
        have B2 := hide ((unhide B1).trans ((below_undrew hb2).mono (unhide B1).size))
        clear hb2 hz2
        rw [hE]
        go_wp2_with fail
        refine hK.out _ _ ?_ (fun hHeld5 => ?_)
        ·exact k2
        clear hK K
        try simp only [Act.put, qqA, qqB, qqC]
        refine wtv 6 (oi := oSteS6) ?_
        refine wtv 7 (oi := oSteS7) ?_
        refine wtv 8 (oi := oSteS8) ?_
        refine wtv 9 (oi := oSteS9) ?_
        refine wtv 10 (oi := oSteS10) ?_
        refine wtv 11 (oi := oSteS11) ?_
        refine wtv 12 (oi := oSteS12) ?_
        refine wtv 13 (oi := oSteS13) ?_
        refine wtv 14 (oi := oSteS14) ?_
        refine wtv 15 (oi := oSteS15) ?_
        refine wtv 16 (oi := oSteS16) ?_
        refine wtv 17 (oi := oSteS17) ?_
        refine wtv 18 (oi := oSteS18) ?_
        refine wtu 19 (oi := oSteS19) ?_
        refine wtu 20 (oi := oSteS20) ?_
        refine wtu 21 (oi := oSteS21) ?_
        refine wtu 22 (oi := oSteS22) ?_
        refine wtu 23 (oi := oSteS23) ?_
        refine wtu 24 (oi := oSteS24) ?_
        refine wtu 25 (oi := oSteS25) ?_
        refine wtu 26 (oi := oSteS26) ?_
        refine wtu 27 (oi := oSteS27) ?_
        refine wtu 28 (oi := oSteS28) ?_
        refine wtu 29 (oi := oSteS29) ?_
        refine wtu 30 (oi := oSteS30) ?_
        refine wtu 31 (oi := oSteS31) ?_
        refine wtu 32 (oi := oSteS32) ?_
        refine wtu 33 (oi := oSteS33) ?_
        refine wtu 34 (oi := oSteS34) ?_
        refine wtu 35 (oi := oSteS35) ?_
        refine wtu 36 (oi := oSteS36) ?_
        refine wtv 37 (oi := oSteS37) ?_
        refine wpAnyH_done (by kernel_rfl) ?_ _
        clear k1 k2
        have hR : R = false := ent_no (unhide HQ2) (ent_high (by omega))
        subst hR
        go_wp2_with fail
        go_ret
        exact ⟨rfl, unhide B2⟩
     ·have hR : R = true := (unhide HQ).trans (logB_end _ _ _ _ (by rw [unhide HN]; omega))
      subst hR
      go_wp2_with fail
      go_ret
      exact ⟨rfl, unhide B1⟩
   ·go_wp2_with fail
    refine (sin tm 0 1000 _).mono ?_
    rintro e w1 ⟨rfl, rfl⟩
    rw [h1]
    go_wp2_with fail
    refine (sin vt (-1) 4 _).mono ?_
    rintro e w1 ⟨rfl, rfl⟩
    rw [h2]
    have hR : R = false := (unhide HR).trans (st3 (by rw [unhide HN]; exact h6))
    subst hR
    go_wp2_with fail
    go_ret
    exact ⟨rfl, unhide B0⟩
end Go.Proofs.YtamjljhbnhdgdaaDoor
