/- paneTree, treeAt: the tree that is read off a row of parts. -/
import Derived.Test.YtgnecacoehedkaaDoorZTreI
import Derived.Test.YtgnecacoehedkaaDoorZG6
namespace Go.Proofs.YtgnecacoehedkaaDoor
open Go.ChangeShapes Go.WideShapes Go.ChangeAt Go.RowKit
abbrev oAtI0 : Oper := { dst := some 3, op := .load 53 (.tmp 1), type := 53, pos := "l05_layout.go:93", after := #[], guard := none }
abbrev oAtI1 : Oper := { dst := some 4, op := .fieldAddr 53 (.tmp 1) 0, type := 0, pos := "l05_layout.go:93", after := #[], guard := none }
abbrev oAtI2 : Oper := { dst := some 5, op := .load 3 (.tmp 4), type := 3, pos := "l05_layout.go:93", after := #[{ on := 1, ground := .data }], guard := none }
abbrev oAtI3 : Oper := { dst := some 6, op := .call { callee := .value (.func 61), args := #[.tmp 5], argTypes := #[3] }, type := 53, pos := "l05_layout.go:93", after := #[{ on := 2, ground := .data }], guard := none }
abbrev oAtI4 : Oper := { dst := some 7, op := .binOp .neq 53 (.tmp 3) (.tmp 6) 53, type := 4, pos := "l05_layout.go:93", after := #[{ on := 0, ground := .data }, { on := 3, ground := .data }], guard := none }
abbrev oAtI5 : Oper := { dst := some 8, op := .move (.tmp 7), type := 4, pos := "l05_layout.go:93", after := #[{ on := 4, ground := .data }, { on := 3, ground := .chain }], guard := none }
abbrev oAtI6 : Oper := { dst := some 9, op := .fieldAddr 53 (.tmp 1) 0, type := 0, pos := "l05_layout.go:93", after := #[{ on := 5, ground := .guard }], guard := some (5, false) }
abbrev oAtI7 : Oper := { dst := some 10, op := .load 3 (.tmp 9), type := 3, pos := "l05_layout.go:93", after := #[{ on := 6, ground := .data }, { on := 5, ground := .guard }], guard := some (5, false) }
abbrev oAtI8 : Oper := { dst := some 11, op := .call { callee := .value (.func 18), args := #[.tmp 10], argTypes := #[3] }, type := 4, pos := "l05_layout.go:93", after := #[{ on := 7, ground := .data }, { on := 5, ground := .chain }, { on := 5, ground := .guard }], guard := some (5, false) }
abbrev oAtI9 : Oper := { dst := some 12, op := .unOp .not 4 (.tmp 11), type := 4, pos := "l05_layout.go:93", after := #[{ on := 8, ground := .data }, { on := 5, ground := .guard }], guard := some (5, false) }
abbrev oAtI10 : Oper := { dst := some 13, op := .pick (.tmp 8) (.const (.bool true)) (.tmp 12), type := 4, pos := "l05_layout.go:93", after := #[{ on := 5, ground := .data }, { on := 9, ground := .data }], guard := none }
/-- A tree that lies in new blocks, each once. -/
def TreeNew (X : Bx) (w w' : World) (t : Tr) (b : Nat) (bs : List Nat) : Prop := TreeAt X w' t b bs ∧ (∀ x ∈ bs, w.heap.size ≤ x) ∧ bs.Nodup
theorem TreeNew.leaf {X : Bx} {w w1 : World} {n : Int} {t : TypeId} (h : w.heap.size ≤ w1.heap.size) : TreeNew X w (w1.alloc (.cells (X.leaf n) t)) (.pane n) w1.heap.size [w1.heap.size] :=
 ⟨⟨rfl, BF.new w1 _ t⟩, fun x hx => by simp at hx; omega, by simp⟩
theorem TreeNew.node {X : Bx} {w w1 w2 w3 : World} {r : Bool} {s : Int} {a c : Tr} {bl br : Nat} {Ls Rs : List Nat} {t : TypeId} (h0 : w.heap.size ≤ w1.heap.size) (h1 : TreeNew X w1 w2 a bl Ls) (h2 : TreeNew X w2 w3 c br Rs) (hb : Below w2.heap.size w2 w3) :
  TreeNew X w (w3.alloc (.cells (X.node r s bl br) t)) (.split r s a c) w3.heap.size (w3.heap.size :: (Ls ++ Rs)) := by
 have hl := h1.1.lt
 have hr := h2.1.lt
 have hz := hb.size
 refine ⟨⟨bl, br, Ls, Rs, rfl, BF.new w3 _ t, (h1.1.below hb).alloc _, h2.1.alloc _⟩, ?_, ?_⟩
 ·intro x hx
  simp only [List.mem_cons, List.mem_append] at hx
  rcases hx with rfl | hx | hx
  ·have := h1.2.1 bl h1.1.root; have := hl bl h1.1.root; omega
  ·have := h1.2.1 x hx; omega
  ·have := h2.2.1 x hx; have := h1.2.1 bl h1.1.root; have := hl bl h1.1.root; omega
 ·rw [List.nodup_cons]
  constructor
  ·simp only [List.mem_append]
   rintro (hx | hx)
   ·have := hl _ hx; omega
   ·have := hr _ hx; omega
  ·rw [List.nodup_append]
   refine ⟨h1.2.2, h2.2.2, fun x hx y hy e => ?_⟩
   have := hl _ hx; have := h2.2.1 _ hy; omega
theorem TreeNew.below {X : Bx} {w w' w'' : World} {t : Tr} {b : Nat} {bs : List Nat} (h : TreeNew X w w' t b bs) (hb : Below w'.heap.size w' w'') : TreeNew X w w'' t b bs := ⟨h.1.below hb, h.2⟩
theorem TreeNew.le {X : Bx} {w0 w w' : World} {t : Tr} {b : Nat} {bs : List Nat} (h : TreeNew X w w' t b bs) (hl : w0.heap.size ≤ w.heap.size) : TreeNew X w0 w' t b bs := ⟨h.1, fun x hx => Nat.le_trans hl (h.2.1 x hx), h.2.2⟩
def ptT (w w' : World) (e : Ending) : Option Tr → Prop
 | none => e = .returned (.pointer none)
 | some t => ∃ b bs, e = .returned (.pointer (some ⟨b, 0, none⟩)) ∧ TreeNew iBx w w' t b bs
set_option maxHeartbeats 400000 in
set_option maxRecDepth 100000 in
theorem ipanetree (p : Pt) (w : World) : Calls Tryd.prog 59 #[.agg #[.int .i64 p.pane, .bool p.rows, .int .i64 p.size, .int .i64 p.left, .int .i64 p.right]] w fun e w' => ptT w w' e (if pnQ p = true ∧ pnB p.pane = true then some (.pane p.pane) else none) ∧ Below w.heap.size w w' := by
 have HB0 := hide (Go.Joins.below_alloc1 w (Obj.cells #[.int .i64 p.pane, .bool p.rows, .int .i64 p.size, .int .i64 p.left, .int .i64 p.right] 53))
 by_cases hp : p = pnP p.pane
 ·obtain ⟨n, hn⟩ : ∃ n, n = p.pane := ⟨_, rfl⟩
  rw [← hn] at hp
  subst hp
  clear hn
  rw [show pnQ (pnP n) = true from rfl]
  simp only [pnP] at HB0 ⊢
  have BX := hide (BF.new w #[.int .i64 n, .bool false, .int .i64 0, .int .i64 (-1), .int .i64 (-1)] 53)
  cases hs : pnB n with
  | false =>
   go_enter Tryd.func59, Tryd.ntmps59
   go_wp2_with fail
   have c0 := (unhide BX).S
   go_region_held3 (fun w' => ∀ o, w'.cell? ⟨w.heap.size, o, none⟩ = (#[.int .i64 n, .bool false, .int .i64 0, .int .i64 (-1), .int .i64 (-1)] : Array Value)[o]?) (first | exact c0 | exact c2) (first | (go_at_call 61; refine (ippart n _).mono ?_; rintro e w2 ⟨rfl, hb2⟩; have B2 := hide ((unhide BX).drew.below hb2); have c2 := (unhide B2).S; have HB2 := hide ((unhide HB0).trans ((below_undrew hb2).mono (unhide HB0).size)); clear hb2) | (go_at_call 18; refine (ipnok n _).mono ?_; rintro e w3 ⟨rfl, rfl⟩; rw [hs]))
   clear c0
   go_wp2_with fail
   go_ret
   exact ⟨by simp [ptT], unhide HB2⟩
  | true =>
   go_enter Tryd.func59, Tryd.ntmps59
   go_wp2_with fail
   have c0 := (unhide BX).S
   go_region_held3 (fun w' => ∀ o, w'.cell? ⟨w.heap.size, o, none⟩ = (#[.int .i64 n, .bool false, .int .i64 0, .int .i64 (-1), .int .i64 (-1)] : Array Value)[o]?) (first | exact c0 | exact c2) (first | (go_at_call 61; refine (ippart n _).mono ?_; rintro e w2 ⟨rfl, hb2⟩; have B2 := hide ((unhide BX).drew.below hb2); have c2 := (unhide B2).S; have HB2 := hide ((unhide HB0).trans ((below_undrew hb2).mono (unhide HB0).size)); clear hb2) | (go_at_call 18; refine (ipnok n _).mono ?_; rintro e w3 ⟨rfl, rfl⟩; rw [hs]))
   clear c0
   go_wp2_with fail
   go_ret
   exact ⟨⟨_, _, rfl, TreeNew.leaf (X := iBx) (unhide HB2).size⟩, (unhide HB2).alloc (unhide HB2).size _⟩
 ·rw [if_neg (fun h => hp ((pnQ_iff p).1 h.1))]
  have BX := hide (BF.new w #[.int .i64 p.pane, .bool p.rows, .int .i64 p.size, .int .i64 p.left, .int .i64 p.right] 53)
  obtain ⟨n, r, s, x, y⟩ := p
  simp only at HB0 BX ⊢
  have hc : r = true ∨ (r = false ∧ ¬ s = 0) ∨ (r = false ∧ s = 0 ∧ ¬ x = -1) ∨ (r = false ∧ s = 0 ∧ x = -1 ∧ ¬ y = -1) := by
   simp only [pnP, Pt.mk.injEq, true_and] at hp
   cases r
   ·simp only [true_and, Bool.false_eq_true, false_or] at hp ⊢
    by_cases h1 : s = 0
    ·by_cases h2 : x = -1
     ·right; right; exact ⟨h1, h2, fun h => hp ⟨h1, h2, h⟩⟩
     ·right; left; exact ⟨h1, h2⟩
    ·left; exact h1
   ·left; rfl
  clear hp
  rcases hc with rfl | ⟨rfl, h1⟩ | ⟨rfl, rfl, h1⟩ | ⟨rfl, rfl, rfl, h1⟩
  all_goals
   go_enter Tryd.func59, Tryd.ntmps59
   go_wp2_with fail
   have c0 := (unhide BX).S
  ·refine wp_region_held_drew (S := fun w' => ∀ o, w'.cell? ⟨w.heap.size, o, none⟩ = (#[.int .i64 n, .bool true, .int .i64 s, .int .i64 x, .int .i64 y] : Array Value)[o]?) (by kernel_rfl) c0 (fun hHeld => ?_)
   refine wtv 0 (oi := oAtI0) ?_
   refine wtv 1 (oi := oAtI1) ?_
   refine wtv 2 (oi := oAtI2) ?_
   refine wpAnyH_ready (rs := [3]) (by kernel_rfl) (by simp) ?_
   refine AllReadyH.cons (o := oAtI3) rfl (fun K hK => ?_) AllReadyH.nil
   go_simp
   refine (ippart n _).mono ?_
   rintro e w2 ⟨rfl, hb2⟩
   have B2 := hide ((unhide BX).drew.below hb2)
   have c2 := (unhide B2).S
   have HB2 := hide ((unhide HB0).trans ((below_undrew hb2).mono (unhide HB0).size))
   clear hb2
   go_wp2_with fail
   refine hK.out _ _ ?_ (fun hHeld3 => ?_)
   ·exact c2
   clear hK K
   try simp only [Act.put, qqA, qqB, qqC]
   refine wtv 4 (oi := oAtI4) ?_
   refine wtv 5 (oi := oAtI5) ?_
   refine wtu 6 (oi := oAtI6) ?_
   refine wtu 7 (oi := oAtI7) ?_
   refine wpAnyH_ready (rs := [8]) (by kernel_rfl) (by simp) ?_
   refine AllReadyH.cons (o := oAtI8) rfl (fun K hK => ?_) AllReadyH.nil
   go_simp
   refine hK.out _ _ ?_ (fun hHeld8 => ?_)
   ·exact c2
   clear hK K
   try simp only [Act.put, qqA, qqB, qqC]
   refine wtu 9 (oi := oAtI9) ?_
   refine wtv 10 (oi := oAtI10) ?_
   refine wpAnyH_done (by kernel_rfl) ?_ _
   clear c0
   go_wp2_with fail
   go_ret
   exact ⟨rfl, unhide HB2⟩
  ·refine wp_region_held_drew (S := fun w' => ∀ o, w'.cell? ⟨w.heap.size, o, none⟩ = (#[.int .i64 n, .bool false, .int .i64 s, .int .i64 x, .int .i64 y] : Array Value)[o]?) (by kernel_rfl) c0 (fun hHeld => ?_)
   refine wtv 0 (oi := oAtI0) ?_
   refine wtv 1 (oi := oAtI1) ?_
   refine wtv 2 (oi := oAtI2) ?_
   refine wpAnyH_ready (rs := [3]) (by kernel_rfl) (by simp) ?_
   refine AllReadyH.cons (o := oAtI3) rfl (fun K hK => ?_) AllReadyH.nil
   go_simp
   refine (ippart n _).mono ?_
   rintro e w2 ⟨rfl, hb2⟩
   have B2 := hide ((unhide BX).drew.below hb2)
   have c2 := (unhide B2).S
   have HB2 := hide ((unhide HB0).trans ((below_undrew hb2).mono (unhide HB0).size))
   clear hb2
   go_wp2_with fail
   refine hK.out _ _ ?_ (fun hHeld3 => ?_)
   ·exact c2
   clear hK K
   try simp only [Act.put, qqA, qqB, qqC]
   refine wtv 4 (oi := oAtI4) ?_
   refine wtv 5 (oi := oAtI5) ?_
   refine wtu 6 (oi := oAtI6) ?_
   refine wtu 7 (oi := oAtI7) ?_
   refine wpAnyH_ready (rs := [8]) (by kernel_rfl) (by simp) ?_
   refine AllReadyH.cons (o := oAtI8) rfl (fun K hK => ?_) AllReadyH.nil
   go_simp
   refine hK.out _ _ ?_ (fun hHeld8 => ?_)
   ·exact c2
   clear hK K
   try simp only [Act.put, qqA, qqB, qqC]
   refine wtu 9 (oi := oAtI9) ?_
   refine wtv 10 (oi := oAtI10) ?_
   refine wpAnyH_done (by kernel_rfl) ?_ _
   clear c0
   go_wp2_with fail
   go_ret
   exact ⟨rfl, unhide HB2⟩
  ·refine wp_region_held_drew (S := fun w' => ∀ o, w'.cell? ⟨w.heap.size, o, none⟩ = (#[.int .i64 n, .bool false, .int .i64 0, .int .i64 x, .int .i64 y] : Array Value)[o]?) (by kernel_rfl) c0 (fun hHeld => ?_)
   refine wtv 0 (oi := oAtI0) ?_
   refine wtv 1 (oi := oAtI1) ?_
   refine wtv 2 (oi := oAtI2) ?_
   refine wpAnyH_ready (rs := [3]) (by kernel_rfl) (by simp) ?_
   refine AllReadyH.cons (o := oAtI3) rfl (fun K hK => ?_) AllReadyH.nil
   go_simp
   refine (ippart n _).mono ?_
   rintro e w2 ⟨rfl, hb2⟩
   have B2 := hide ((unhide BX).drew.below hb2)
   have c2 := (unhide B2).S
   have HB2 := hide ((unhide HB0).trans ((below_undrew hb2).mono (unhide HB0).size))
   clear hb2
   go_wp2_with fail
   refine hK.out _ _ ?_ (fun hHeld3 => ?_)
   ·exact c2
   clear hK K
   try simp only [Act.put, qqA, qqB, qqC]
   refine wtv 4 (oi := oAtI4) ?_
   refine wtv 5 (oi := oAtI5) ?_
   refine wtu 6 (oi := oAtI6) ?_
   refine wtu 7 (oi := oAtI7) ?_
   refine wpAnyH_ready (rs := [8]) (by kernel_rfl) (by simp) ?_
   refine AllReadyH.cons (o := oAtI8) rfl (fun K hK => ?_) AllReadyH.nil
   go_simp
   refine hK.out _ _ ?_ (fun hHeld8 => ?_)
   ·exact c2
   clear hK K
   try simp only [Act.put, qqA, qqB, qqC]
   refine wtu 9 (oi := oAtI9) ?_
   refine wtv 10 (oi := oAtI10) ?_
   refine wpAnyH_done (by kernel_rfl) ?_ _
   clear c0
   go_wp2_with fail
   go_ret
   exact ⟨rfl, unhide HB2⟩
  ·refine wp_region_held_drew (S := fun w' => ∀ o, w'.cell? ⟨w.heap.size, o, none⟩ = (#[.int .i64 n, .bool false, .int .i64 0, .int .i64 (-1), .int .i64 y] : Array Value)[o]?) (by kernel_rfl) c0 (fun hHeld => ?_)
   refine wtv 0 (oi := oAtI0) ?_
   refine wtv 1 (oi := oAtI1) ?_
   refine wtv 2 (oi := oAtI2) ?_
   refine wpAnyH_ready (rs := [3]) (by kernel_rfl) (by simp) ?_
   refine AllReadyH.cons (o := oAtI3) rfl (fun K hK => ?_) AllReadyH.nil
   go_simp
   refine (ippart n _).mono ?_
   rintro e w2 ⟨rfl, hb2⟩
   have B2 := hide ((unhide BX).drew.below hb2)
   have c2 := (unhide B2).S
   have HB2 := hide ((unhide HB0).trans ((below_undrew hb2).mono (unhide HB0).size))
   clear hb2
   go_wp2_with fail
   refine hK.out _ _ ?_ (fun hHeld3 => ?_)
   ·exact c2
   clear hK K
   try simp only [Act.put, qqA, qqB, qqC]
   refine wtv 4 (oi := oAtI4) ?_
   refine wtv 5 (oi := oAtI5) ?_
   refine wtu 6 (oi := oAtI6) ?_
   refine wtu 7 (oi := oAtI7) ?_
   refine wpAnyH_ready (rs := [8]) (by kernel_rfl) (by simp) ?_
   refine AllReadyH.cons (o := oAtI8) rfl (fun K hK => ?_) AllReadyH.nil
   go_simp
   refine hK.out _ _ ?_ (fun hHeld8 => ?_)
   ·exact c2
   clear hK K
   try simp only [Act.put, qqA, qqB, qqC]
   refine wtu 9 (oi := oAtI9) ?_
   refine wtv 10 (oi := oAtI10) ?_
   refine wpAnyH_done (by kernel_rfl) ?_ _
   clear c0
   go_wp2_with fail
   go_ret
   exact ⟨rfl, unhide HB2⟩
def atT (w w' : World) (e : Ending) (k : Nat) : Option Tr → Prop
 | none => ∃ x : Int, e = .returned (.tuple #[.pointer none, .int .i64 x])
 | some t => ∃ b bs, e = .returned (.tuple #[.pointer (some ⟨b, 0, none⟩), .int .i64 ((k + t.cnt : Nat) : Int)]) ∧ TreeNew iBx w w' t b bs
end Go.Proofs.YtgnecacoehedkaaDoor
