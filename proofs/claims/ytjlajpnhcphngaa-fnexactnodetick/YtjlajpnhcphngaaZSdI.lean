/- A node stands for election: what the program answers. -/
import Derived.Test.YtjlajpnhcphngaaZLdI
namespace Go.Proofs.Ytjlajpnhcphngaa
open Go.ChangeShapes Go.WideShapes Go.ChangeAt Go.RowKit
set_option linter.unusedVariables false
abbrev oSdI0 : Oper := { dst := some 5, op := .move (.tmp 0), type := 74, pos := "l08_raft.go:254", after := #[], guard := none }
abbrev oSdI1 : Oper := { dst := some 6, op := .move (.tmp 0), type := 74, pos := "l08_raft.go:254", after := #[{ on := 14, ground := .gcOnly Go.Departure.lateStores }], guard := none }
abbrev oSdI2 : Oper := { dst := some 7, op := .move (.tmp 0), type := 74, pos := "l08_raft.go:254", after := #[{ on := 17, ground := .gcOnly Go.Departure.lateStores }], guard := none }
abbrev oSdI3 : Oper := { dst := some 8, op := .move (.tmp 0), type := 74, pos := "l08_raft.go:254", after := #[], guard := none }
abbrev oSdI4 : Oper := { dst := some 9, op := .nilCheck (.tmp 8), type := 0, pos := "l08_raft.go:254", after := #[{ on := 3, ground := .data }], guard := none }
abbrev oSdI5 : Oper := { dst := some 10, op := .fieldAddr 29 (.tmp 9) 2, type := 0, pos := "l08_raft.go:254", after := #[{ on := 4, ground := .data }], guard := none }
abbrev oSdI6 : Oper := { dst := some 13, op := .move (.tmp 0), type := 74, pos := "l08_raft.go:254", after := #[], guard := none }
abbrev oSdI7 : Oper := { dst := some 14, op := .nilCheck (.tmp 13), type := 0, pos := "l08_raft.go:254", after := #[{ on := 8, ground := .data }], guard := none }
abbrev oSdI8 : Oper := { dst := some 15, op := .fieldAddr 29 (.tmp 14) 0, type := 0, pos := "l08_raft.go:254", after := #[{ on := 9, ground := .data }], guard := none }
abbrev oSdI9 : Oper := { dst := some 16, op := .load 3 (.tmp 15), type := 3, pos := "l08_raft.go:254", after := #[{ on := 10, ground := .data }], guard := none }
abbrev oSdI10 : Oper := { dst := some 11, op := .load 3 (.tmp 10), type := 3, pos := "l08_raft.go:254", after := #[{ on := 5, ground := .data }], guard := none }
abbrev oSdI11 : Oper := { dst := some 12, op := .binOp .add 3 (.tmp 11) (.const (.int .i64 1)) 3, type := 3, pos := "l08_raft.go:254", after := #[{ on := 6, ground := .data }], guard := none }
abbrev oSdI12 : Oper := { dst := some 17, op := .nilCheck (.tmp 5), type := 0, pos := "l08_raft.go:254", after := #[{ on := 0, ground := .data }, { on := 0, ground := .phase }, { on := 1, ground := .textOnly Go.Departure.lateStores }, { on := 2, ground := .textOnly Go.Departure.lateStores }, { on := 3, ground := .phase }, { on := 4, ground := .phase }, { on := 5, ground := .phase }, { on := 6, ground := .phase }, { on := 7, ground := .phase }, { on := 8, ground := .textOnly Go.Departure.lateStores }, { on := 9, ground := .textOnly Go.Departure.lateStoresUnsure }, { on := 10, ground := .textOnly Go.Departure.lateStoresUnsure }, { on := 11, ground := .phase }], guard := none }
abbrev oSdI13 : Oper := { dst := some 18, op := .fieldAddr 29 (.tmp 17) 2, type := 0, pos := "l08_raft.go:254", after := #[{ on := 12, ground := .data }, { on := 0, ground := .phase }, { on := 1, ground := .textOnly Go.Departure.lateStores }, { on := 2, ground := .textOnly Go.Departure.lateStores }, { on := 3, ground := .phase }, { on := 4, ground := .phase }, { on := 5, ground := .phase }, { on := 6, ground := .phase }, { on := 7, ground := .phase }, { on := 8, ground := .textOnly Go.Departure.lateStores }, { on := 9, ground := .textOnly Go.Departure.lateStoresUnsure }, { on := 10, ground := .textOnly Go.Departure.lateStoresUnsure }, { on := 11, ground := .phase }], guard := none }
abbrev oSdI14 : Oper := { dst := none, op := .store 3 (.tmp 18) (.tmp 12), type := 0, pos := "l08_raft.go:254", after := #[{ on := 13, ground := .data }, { on := 7, ground := .data }, { on := 0, ground := .phase }, { on := 1, ground := .textOnly Go.Departure.lateStores }, { on := 2, ground := .textOnly Go.Departure.lateStores }, { on := 3, ground := .phase }, { on := 4, ground := .phase }, { on := 5, ground := .phase }, { on := 6, ground := .phase }, { on := 7, ground := .phase }, { on := 8, ground := .textOnly Go.Departure.lateStores }, { on := 9, ground := .textOnly Go.Departure.lateStoresUnsure }, { on := 10, ground := .textOnly Go.Departure.lateStoresUnsure }, { on := 11, ground := .phase }], guard := none }
abbrev oSdI15 : Oper := { dst := some 19, op := .nilCheck (.tmp 6), type := 0, pos := "l08_raft.go:254", after := #[{ on := 1, ground := .data }, { on := 0, ground := .phase }, { on := 1, ground := .phase }, { on := 2, ground := .textOnly Go.Departure.lateStores }, { on := 3, ground := .phase }, { on := 4, ground := .phase }, { on := 5, ground := .phase }, { on := 6, ground := .phase }, { on := 7, ground := .phase }, { on := 8, ground := .phase }, { on := 9, ground := .phase }, { on := 10, ground := .phase }, { on := 11, ground := .phase }, { on := 12, ground := .phase }, { on := 13, ground := .phase }, { on := 14, ground := .phase }], guard := none }
abbrev oSdI16 : Oper := { dst := some 20, op := .fieldAddr 29 (.tmp 19) 3, type := 0, pos := "l08_raft.go:254", after := #[{ on := 15, ground := .data }, { on := 0, ground := .phase }, { on := 1, ground := .phase }, { on := 2, ground := .textOnly Go.Departure.lateStores }, { on := 3, ground := .phase }, { on := 4, ground := .phase }, { on := 5, ground := .phase }, { on := 6, ground := .phase }, { on := 7, ground := .phase }, { on := 8, ground := .phase }, { on := 9, ground := .phase }, { on := 10, ground := .phase }, { on := 11, ground := .phase }, { on := 12, ground := .phase }, { on := 13, ground := .phase }, { on := 14, ground := .phase }], guard := none }
abbrev oSdI17 : Oper := { dst := none, op := .store 3 (.tmp 20) (.tmp 16), type := 0, pos := "l08_raft.go:254", after := #[{ on := 16, ground := .data }, { on := 11, ground := .data }, { on := 14, ground := .chain }, { on := 0, ground := .phase }, { on := 1, ground := .phase }, { on := 2, ground := .textOnly Go.Departure.lateStores }, { on := 3, ground := .phase }, { on := 4, ground := .phase }, { on := 5, ground := .phase }, { on := 6, ground := .phase }, { on := 7, ground := .phase }, { on := 8, ground := .phase }, { on := 9, ground := .phase }, { on := 10, ground := .phase }, { on := 11, ground := .phase }, { on := 12, ground := .phase }, { on := 13, ground := .phase }, { on := 14, ground := .phase }], guard := none }
abbrev oSdI18 : Oper := { dst := some 21, op := .nilCheck (.tmp 7), type := 0, pos := "l08_raft.go:254", after := #[{ on := 2, ground := .data }, { on := 0, ground := .phase }, { on := 1, ground := .phase }, { on := 2, ground := .phase }, { on := 3, ground := .phase }, { on := 4, ground := .phase }, { on := 5, ground := .phase }, { on := 6, ground := .phase }, { on := 7, ground := .phase }, { on := 8, ground := .phase }, { on := 9, ground := .phase }, { on := 10, ground := .phase }, { on := 11, ground := .phase }, { on := 12, ground := .phase }, { on := 13, ground := .phase }, { on := 14, ground := .phase }, { on := 15, ground := .phase }, { on := 16, ground := .phase }, { on := 17, ground := .phase }], guard := none }
abbrev oSdI19 : Oper := { dst := some 22, op := .fieldAddr 29 (.tmp 21) 4, type := 0, pos := "l08_raft.go:254", after := #[{ on := 18, ground := .data }, { on := 0, ground := .phase }, { on := 1, ground := .phase }, { on := 2, ground := .phase }, { on := 3, ground := .phase }, { on := 4, ground := .phase }, { on := 5, ground := .phase }, { on := 6, ground := .phase }, { on := 7, ground := .phase }, { on := 8, ground := .phase }, { on := 9, ground := .phase }, { on := 10, ground := .phase }, { on := 11, ground := .phase }, { on := 12, ground := .phase }, { on := 13, ground := .phase }, { on := 14, ground := .phase }, { on := 15, ground := .phase }, { on := 16, ground := .phase }, { on := 17, ground := .phase }], guard := none }
abbrev oSdI20 : Oper := { dst := none, op := .store 3 (.tmp 22) (.const (.int .i64 1)), type := 0, pos := "l08_raft.go:254", after := #[{ on := 19, ground := .data }, { on := 17, ground := .chain }, { on := 0, ground := .phase }, { on := 1, ground := .phase }, { on := 2, ground := .phase }, { on := 3, ground := .phase }, { on := 4, ground := .phase }, { on := 5, ground := .phase }, { on := 6, ground := .phase }, { on := 7, ground := .phase }, { on := 8, ground := .phase }, { on := 9, ground := .phase }, { on := 10, ground := .phase }, { on := 11, ground := .phase }, { on := 12, ground := .phase }, { on := 13, ground := .phase }, { on := 14, ground := .phase }, { on := 15, ground := .phase }, { on := 16, ground := .phase }, { on := 17, ground := .phase }], guard := none }
abbrev oSdI21 : Oper := { dst := some 40, op := .move (.tmp 0), type := 74, pos := "l08_raft.go:257", after := #[], guard := none }
abbrev oSdI22 : Oper := { dst := some 41, op := .nilCheck (.tmp 40), type := 0, pos := "l08_raft.go:257", after := #[{ on := 0, ground := .data }], guard := none }
abbrev oSdI23 : Oper := { dst := some 42, op := .load 29 (.tmp 41), type := 29, pos := "l08_raft.go:257", after := #[{ on := 1, ground := .data }], guard := none }
abbrev oSdI24 : Oper := { dst := some 43, op := .move (.tmp 0), type := 74, pos := "l08_raft.go:257", after := #[], guard := none }
abbrev oSdI25 : Oper := { dst := some 44, op := .nilCheck (.tmp 43), type := 0, pos := "l08_raft.go:257", after := #[{ on := 3, ground := .data }], guard := none }
abbrev oSdI26 : Oper := { dst := some 45, op := .fieldAddr 29 (.tmp 44) 10, type := 0, pos := "l08_raft.go:257", after := #[{ on := 4, ground := .data }], guard := none }
abbrev oSdI27 : Oper := { dst := some 46, op := .load 23 (.tmp 45), type := 23, pos := "l08_raft.go:257", after := #[{ on := 5, ground := .data }], guard := none }
abbrev oSdI28 : Oper := { dst := some 47, op := .call { callee := .builtin Go.Builtin.len, args := #[.tmp 46], argTypes := #[23] }, type := 3, pos := "l08_raft.go:257", after := #[{ on := 6, ground := .data }], guard := none }
abbrev oSdI29 : Oper := { dst := some 48, op := .call { callee := .value (.func 57), args := #[.tmp 42, .tmp 47], argTypes := #[74, 3] }, type := 4, pos := "l08_raft.go:257", after := #[{ on := 2, ground := .data }, { on := 7, ground := .data }], guard := none }
theorem arr234 (x0 x1 x5 x6 x7 x8 x9 xa xb xc y2 y3 y4 z2 z3 z4 : Value) (o : Nat) (ho : o ≠ 2 ∧ o ≠ 3 ∧ o ≠ 4) : (#[x0, x1, y2, y3, y4, x5, x6, x7, x8, x9, xa, xb, xc] : Array Value)[o]? = (#[x0, x1, z2, z3, z4, x5, x6, x7, x8, x9, xa, xb, xc] : Array Value)[o]? := by
  rcases Nat.lt_or_ge o 13 with h | h
  · have hh : o = 0 ∨ o = 1 ∨ o = 5 ∨ o = 6 ∨ o = 7 ∨ o = 8 ∨ o = 9 ∨ o = 10 ∨ o = 11 ∨ o = 12 := by omega
    rcases hh with rfl | rfl | rfl | rfl | rfl | rfl | rfl | rfl | rfl | rfl <;> rfl
  · rw [Array.getElem?_eq_none (by simpa using h), Array.getElem?_eq_none (by simpa using h)]
theorem lit_one (w : World) (t : TypeId) (base : Nat) (x : Value) (hb : base ≤ w.heap.size) : (w.alloc (.cells #[x] t)).ownsRow base t 1 (.slice (some ⟨w.heap.size, 0, none⟩) 1 1) 1 [x] := by
  have h := World.ownsRow_lit (e := t) (base := base) (size := 1) w #[x] 1 hb (by unfold maxLen; omega) rfl
  simpa using h
theorem own_two {w w' : World} {base : Nat} {e : TypeId} {z : Nat} {v : Value} {n : Nat} {xs : List Value} {p : Nat} {row : Option Nat} (h : w.ownsRow base e z v n xs) (ht : Two p row w w') (hne : v.ownBlock ≠ some p) (hr : ∀ j, v.ownBlock = some j → row ≠ some j := by intro _ _ e; cases e) : w'.ownsRow base e z v n xs := by
  have hlt := h.lt
  obtain ⟨h1, h2⟩ := h
  refine ⟨h1, ?_⟩
  rcases h2 with h2 | ⟨g, cap, cur, rfl, hbg, hgc, hrest⟩
  · exact .inl h2
  · exact .inr ⟨g, cap, cur, rfl, hbg, (ht.block g (hlt g rfl).2 (fun e => hne (by rw [e]; rfl)) (hr g rfl)).trans hgc, hrest⟩
set_option maxHeartbeats 4000000 in
set_option maxRecDepth 100000 in
theorem istand_many (P lo : Nat) (id : Int) (nd : Nat) (tm vt ro : Int) (c : Nat) (el wt : Int) (up : Bool) (a : Option Addr) (cap n : Nat) (av : Option Addr) (cv nv : Nat) (ax : Option Addr) (cx nx : Nat) (ag : Option Addr) (cg ng : Nat) (l : List Ent) (HN : Hid (l.length = n)) (hn : n ≤ 60) (hnc : n ≤ cap) (hnd : nd ≤ 5) (hnd1 : 1 ≤ nd) (hcn : c ≤ n) (dr : Nat) (hdr : dr ≤ 1000000) (htm : 0 ≤ tm ∧ tm ≤ 1000) (t1 : Int) (HT1 : Hid (t1 = tm + 1)) (TT : Int) (HT : Hid (TT = tAt l n)) (h2 : 2 ≤ nd) (w : World) (hP : BF P #[.int .i64 id, .int .i64 (nd : Int), .int .i64 tm, .int .i64 vt, .int .i64 ro, .bool up, .slice a n cap, .int .i64 (c : Int), .int .i64 el, .int .i64 wt, .slice av nv cv, .slice ax nx cx, .slice ag ng cg] w) (hlo : lo ≤ P) (hE : w.ownsRow lo 68 2 (.slice a n cap) n (cE l)) (hEP : (Value.slice a n cap).ownBlock ≠ some P) :
    Calls Try.prog 49 #[.pointer (some ⟨P, 0, none⟩), .int .i64 (dr : Int)] w fun e w' => ∃ gV vm LL lom, e = .returned vm ∧ BF P #[.int .i64 id, .int .i64 (nd : Int), .int .i64 t1, .int .i64 id, .int .i64 1, .bool up, .slice a n cap, .int .i64 (c : Int), .int .i64 0, .int .i64 (5 + (dr : Int) % 8), .slice (some ⟨gV, 0, none⟩) 1 1, .slice ax nx cx, .slice ag ng cg] w' ∧ w'.ownsRow w.heap.size 3 1 (.slice (some ⟨gV, 0, none⟩) 1 1) 1 [.int .i64 id] ∧ (P < lom ∧ gV < lom ∧ w.heap.size ≤ lom) ∧ LL.map (·.1) = asks id t1 n TT nd ∧ MOwn w' lom vm LL ∧ Two P none w w' := by
  have EP := hide hEP
  obtain ⟨RR, hRR⟩ : ∃ RR, RR = decide (nd < 2 * 1) := ⟨_, rfl⟩
  have HRR := hide hRR
  obtain rfl : RR = false := by rw [hRR]; exact decide_eq_false (by omega)
  clear hRR
  have EW := hide hE
  have LP : Hid (lo ≤ P) := hlo
  have PW : Hid (P < w.heap.size) := hP.lt
  have ew : IntKind.i64.wrap (tm + 1) = t1 := by rw [unhide HT1]; exact wrapi _ (by omega) (by omega)
  have ed : IntKind.i64.wrap (5 + (dr : Int) % 8) = 5 + (dr : Int) % 8 := wrapi _ (by omega) (by omega)
  have hd0 : (0 : Int) ≤ (dr : Int) := by omega
  have P0 := hide hP.drew
  have T0 : Hid (Two P none w w.drew) := Two.of_below (Below.refl _ _).drew
  have kp := hP.S
  clear hP hE hEP hlo
  go_enter Try.func49, Try.ntmps49
  go_wp2_with fail
  refine wp_region_held_drew (S := fun w' => ∀ o, (o ≠ 2 ∧ o ≠ 3 ∧ o ≠ 4) → w'.cell? ⟨P, o, none⟩ = (#[.int .i64 id, .int .i64 (nd : Int), .int .i64 tm, .int .i64 vt, .int .i64 ro, .bool up, .slice a n cap, .int .i64 (c : Int), .int .i64 el, .int .i64 wt, .slice av nv cv, .slice ax nx cx, .slice ag ng cg] : Array Value)[o]?) (by kernel_rfl) (fun o _ => kp o) (fun hHeld => ?_)
  generalize w.drew = v0 at P0 T0 hHeld ⊢
  refine wtk (i := 0) (oi := oSdI0) (v := ?_) rfl (Or.inl ⟨by rfl, ?_⟩) (by assumption) ?_
  rotate_left 1
  · (intro w' hSw; (try dsimp only at hSw); go_simp; try with_reducible rfl)
  try simp only [Act.put, qqA, qqB, qqC]
  refine wtk (i := 1) (oi := oSdI1) (v := ?_) rfl (Or.inl ⟨by rfl, ?_⟩) (by assumption) ?_
  rotate_left 1
  · (intro w' hSw; (try dsimp only at hSw); go_simp; try with_reducible rfl)
  try simp only [Act.put, qqA, qqB, qqC]
  refine wtk (i := 2) (oi := oSdI2) (v := ?_) rfl (Or.inl ⟨by rfl, ?_⟩) (by assumption) ?_
  rotate_left 1
  · (intro w' hSw; (try dsimp only at hSw); go_simp; try with_reducible rfl)
  try simp only [Act.put, qqA, qqB, qqC]
  refine wtk (i := 3) (oi := oSdI3) (v := ?_) rfl (Or.inl ⟨by rfl, ?_⟩) (by assumption) ?_
  rotate_left 1
  · (intro w' hSw; (try dsimp only at hSw); go_simp; try with_reducible rfl)
  try simp only [Act.put, qqA, qqB, qqC]
  refine wtk (i := 4) (oi := oSdI4) (v := ?_) rfl (Or.inl ⟨by rfl, ?_⟩) (by assumption) ?_
  rotate_left 1
  · (intro w' hSw; (try dsimp only at hSw); go_simp; try with_reducible rfl)
  try simp only [Act.put, qqA, qqB, qqC]
  refine wtk (i := 5) (oi := oSdI5) (v := ?_) rfl (Or.inl ⟨by rfl, ?_⟩) (by assumption) ?_
  rotate_left 1
  · (intro w' hSw; (try dsimp only at hSw); go_simp; try with_reducible rfl)
  try simp only [Act.put, qqA, qqB, qqC]
  refine wtk (i := 8) (oi := oSdI6) (v := ?_) rfl (Or.inl ⟨by rfl, ?_⟩) (by assumption) ?_
  rotate_left 1
  · (intro w' hSw; (try dsimp only at hSw); go_simp; try with_reducible rfl)
  try simp only [Act.put, qqA, qqB, qqC]
  refine wtk (i := 9) (oi := oSdI7) (v := ?_) rfl (Or.inl ⟨by rfl, ?_⟩) (by assumption) ?_
  rotate_left 1
  · (intro w' hSw; (try dsimp only at hSw); go_simp; try with_reducible rfl)
  try simp only [Act.put, qqA, qqB, qqC]
  refine wtk (i := 10) (oi := oSdI8) (v := ?_) rfl (Or.inl ⟨by rfl, ?_⟩) (by assumption) ?_
  rotate_left 1
  · (intro w' hSw; (try dsimp only at hSw); go_simp; try with_reducible rfl)
  try simp only [Act.put, qqA, qqB, qqC]
  refine wtk (i := 11) (oi := oSdI9) (v := ?_) rfl (Or.inl ⟨by rfl, ?_⟩) (by assumption) ?_
  rotate_left 1
  · (intro w' hSw; (try dsimp only at hSw); go_simp; try with_reducible rfl)
  try simp only [Act.put, qqA, qqB, qqC]
  refine wpAnyH_ready (rs := [6]) (by kernel_rfl) (by simp) ?_
  refine AllReadyH.cons (o := oSdI10) rfl (fun K hK => ?_) AllReadyH.nil
  have kq := (unhide P0).S
  go_simp
  refine hK.out _ _ ?_ (fun hHeld6 => ?_)
  · exact fun o _ => (unhide P0).S o
  clear hK K
  try simp only [Act.put, qqA, qqB, qqC]
  clear kq
  refine wtk (i := 7) (oi := oSdI11) (v := ?_) rfl (Or.inl ⟨by rfl, ?_⟩) (by assumption) ?_
  rotate_left 1
  · (intro w' hSw; (try dsimp only at hSw); go_simp; try with_reducible rfl)
  try simp only [Act.put, qqA, qqB, qqC]
  refine wtk (i := 12) (oi := oSdI12) (v := ?_) rfl (Or.inl ⟨by rfl, ?_⟩) (by assumption) ?_
  rotate_left 1
  · (intro w' hSw; (try dsimp only at hSw); go_simp; try with_reducible rfl)
  try simp only [Act.put, qqA, qqB, qqC]
  refine wtk (i := 13) (oi := oSdI13) (v := ?_) rfl (Or.inl ⟨by rfl, ?_⟩) (by assumption) ?_
  rotate_left 1
  · (intro w' hSw; (try dsimp only at hSw); go_simp; try with_reducible rfl)
  try simp only [Act.put, qqA, qqB, qqC]
  refine wpAnyH_ready (rs := [14]) (by kernel_rfl) (by simp) ?_
  refine AllReadyH.cons (o := oSdI14) rfl (fun K hK => ?_) AllReadyH.nil
  have kq := (unhide P0).S
  have kqf := (unhide P0).F
  obtain ⟨v1, hv⟩ : ∃ v9, v9 = v0.setCell ⟨P, 2, none⟩ (.int .i64 t1) := ⟨_, rfl⟩
  have P1 : Hid (BF P #[.int .i64 id, .int .i64 (nd : Int), .int .i64 t1, .int .i64 vt, .int .i64 ro, .bool up, .slice a n cap, .int .i64 (c : Int), .int .i64 el, .int .i64 wt, .slice av nv cv, .slice ax nx cx, .slice ag ng cg] v1) := by rw [hv]; exact (unhide P0).set 2 (by simp) _
  have T1 : Hid (Two P none w v1) := by rw [hv]; exact (unhide T0).set
  have k9 : ∀ o, (o ≠ 2 ∧ o ≠ 3 ∧ o ≠ 4) → v1.cell? ⟨P, o, none⟩ = (#[.int .i64 id, .int .i64 (nd : Int), .int .i64 tm, .int .i64 vt, .int .i64 ro, .bool up, .slice a n cap, .int .i64 (c : Int), .int .i64 el, .int .i64 wt, .slice av nv cv, .slice ax nx cx, .slice ag ng cg] : Array Value)[o]? := fun o ho => by rw [(unhide P1).S o]; exact arr234 _ _ _ _ _ _ _ _ _ _ _ _ _ _ _ _ o ho
  go_simp
  rw [← hv]
  refine hK.out _ _ ?_ (fun hHeld14 => ?_)
  · exact k9
  clear hK K
  try simp only [Act.put, qqA, qqB, qqC]
  clear hv kq kqf k9 P0 T0
  refine wtk (i := 15) (oi := oSdI15) (v := ?_) rfl (Or.inl ⟨by rfl, ?_⟩) (by assumption) ?_
  rotate_left 1
  · (intro w' hSw; (try dsimp only at hSw); go_simp; try with_reducible rfl)
  try simp only [Act.put, qqA, qqB, qqC]
  refine wtk (i := 16) (oi := oSdI16) (v := ?_) rfl (Or.inl ⟨by rfl, ?_⟩) (by assumption) ?_
  rotate_left 1
  · (intro w' hSw; (try dsimp only at hSw); go_simp; try with_reducible rfl)
  try simp only [Act.put, qqA, qqB, qqC]
  refine wpAnyH_ready (rs := [17]) (by kernel_rfl) (by simp) ?_
  refine AllReadyH.cons (o := oSdI17) rfl (fun K hK => ?_) AllReadyH.nil
  have kq := (unhide P1).S
  have kqf := (unhide P1).F
  obtain ⟨v2, hv⟩ : ∃ v9, v9 = v1.setCell ⟨P, 3, none⟩ (.int .i64 id) := ⟨_, rfl⟩
  have P2 : Hid (BF P #[.int .i64 id, .int .i64 (nd : Int), .int .i64 t1, .int .i64 id, .int .i64 ro, .bool up, .slice a n cap, .int .i64 (c : Int), .int .i64 el, .int .i64 wt, .slice av nv cv, .slice ax nx cx, .slice ag ng cg] v2) := by rw [hv]; exact (unhide P1).set 3 (by simp) _
  have T2 : Hid (Two P none w v2) := by rw [hv]; exact (unhide T1).set
  have k9 : ∀ o, (o ≠ 2 ∧ o ≠ 3 ∧ o ≠ 4) → v2.cell? ⟨P, o, none⟩ = (#[.int .i64 id, .int .i64 (nd : Int), .int .i64 tm, .int .i64 vt, .int .i64 ro, .bool up, .slice a n cap, .int .i64 (c : Int), .int .i64 el, .int .i64 wt, .slice av nv cv, .slice ax nx cx, .slice ag ng cg] : Array Value)[o]? := fun o ho => by rw [(unhide P2).S o]; exact arr234 _ _ _ _ _ _ _ _ _ _ _ _ _ _ _ _ o ho
  go_simp
  rw [← hv]
  refine hK.out _ _ ?_ (fun hHeld17 => ?_)
  · exact k9
  clear hK K
  try simp only [Act.put, qqA, qqB, qqC]
  clear hv kq kqf k9 P1 T1
  refine wtk (i := 18) (oi := oSdI18) (v := ?_) rfl (Or.inl ⟨by rfl, ?_⟩) (by assumption) ?_
  rotate_left 1
  · (intro w' hSw; (try dsimp only at hSw); go_simp; try with_reducible rfl)
  try simp only [Act.put, qqA, qqB, qqC]
  refine wtk (i := 19) (oi := oSdI19) (v := ?_) rfl (Or.inl ⟨by rfl, ?_⟩) (by assumption) ?_
  rotate_left 1
  · (intro w' hSw; (try dsimp only at hSw); go_simp; try with_reducible rfl)
  try simp only [Act.put, qqA, qqB, qqC]
  refine wpAnyH_ready (rs := [20]) (by kernel_rfl) (by simp) ?_
  refine AllReadyH.cons (o := oSdI20) rfl (fun K hK => ?_) AllReadyH.nil
  have kq := (unhide P2).S
  have kqf := (unhide P2).F
  obtain ⟨v3, hv⟩ : ∃ v9, v9 = v2.setCell ⟨P, 4, none⟩ (.int .i64 1) := ⟨_, rfl⟩
  have P3 : Hid (BF P #[.int .i64 id, .int .i64 (nd : Int), .int .i64 t1, .int .i64 id, .int .i64 1, .bool up, .slice a n cap, .int .i64 (c : Int), .int .i64 el, .int .i64 wt, .slice av nv cv, .slice ax nx cx, .slice ag ng cg] v3) := by rw [hv]; exact (unhide P2).set 4 (by simp) _
  have T3 : Hid (Two P none w v3) := by rw [hv]; exact (unhide T2).set
  have k9 : ∀ o, (o ≠ 2 ∧ o ≠ 3 ∧ o ≠ 4) → v3.cell? ⟨P, o, none⟩ = (#[.int .i64 id, .int .i64 (nd : Int), .int .i64 tm, .int .i64 vt, .int .i64 ro, .bool up, .slice a n cap, .int .i64 (c : Int), .int .i64 el, .int .i64 wt, .slice av nv cv, .slice ax nx cx, .slice ag ng cg] : Array Value)[o]? := fun o ho => by rw [(unhide P3).S o]; exact arr234 _ _ _ _ _ _ _ _ _ _ _ _ _ _ _ _ o ho
  go_simp
  rw [← hv]
  refine hK.out _ _ ?_ (fun hHeld20 => ?_)
  · exact k9
  clear hK K
  try simp only [Act.put, qqA, qqB, qqC]
  clear hv kq kqf k9 P2 T2
  refine wpAnyH_done (by kernel_rfl) ?_ _
  clear kp hHeld
  obtain ⟨gV, hgV⟩ : ∃ q, q = v3.heap.size := ⟨_, rfl⟩
  have P3b := hide (BF.alloc (unhide P3) (.cells #[.int .i64 id] 3))
  obtain ⟨v4, hv4⟩ : ∃ v9, v9 = (v3.alloc (.cells #[.int .i64 id] 3)).setCell ⟨P, 10, none⟩ (.slice (some ⟨gV, 0, none⟩) 1 1) := ⟨_, rfl⟩
  have P4 : Hid (BF P #[.int .i64 id, .int .i64 (nd : Int), .int .i64 t1, .int .i64 id, .int .i64 1, .bool up, .slice a n cap, .int .i64 (c : Int), .int .i64 el, .int .i64 wt, .slice (some ⟨gV, 0, none⟩) 1 1, .slice ax nx cx, .slice ag ng cg] v4) := by rw [hv4]; exact (unhide P3b).set 10 (by simp) _
  have T4 : Hid (Two P none w v4) := by rw [hv4]; exact ((unhide T3).trans (Two.of_below (Go.Joins.below_alloc1 v3 _)) (fun j _ e => e)).set
  have pv : P < v3.heap.size := (unhide P3).lt
  have sv := (unhide T3).size
  have Y4 : Hid (v4.ownsRow w.heap.size 3 1 (.slice (some ⟨gV, 0, none⟩) 1 1) 1 [.int .i64 id]) := by
    have h := lit_one v3 3 v3.heap.size (.int .i64 id) (Nat.le_refl _)
    have h2 := own_low (ownsRow_setCell_below h (a := ⟨P, 10, none⟩) pv (.slice (some ⟨gV, 0, none⟩) 1 1)) sv
    rw [← hgV] at h2
    rw [hv4]; exact h2
  have GV : Hid (P < gV ∧ w.heap.size ≤ gV) := by show _ ∧ _; omega
  obtain ⟨v6, hv6, hP6, hf6, hb6⟩ := put2 v4 (unhide P4) (o1 := 8) (o2 := 9) (by simp) (by simp) (.int .i64 0) (.int .i64 (5 + (dr : Int) % 8))
  have P6 : Hid (BF P #[.int .i64 id, .int .i64 (nd : Int), .int .i64 t1, .int .i64 id, .int .i64 1, .bool up, .slice a n cap, .int .i64 (c : Int), .int .i64 0, .int .i64 (5 + (dr : Int) % 8), .slice (some ⟨gV, 0, none⟩) 1 1, .slice ax nx cx, .slice ag ng cg] v6) := hP6
  have T6 : Hid (Two P none w v6) := (unhide T4).trans ⟨hb6.os, hb6.tape, hb6.output, hb6.size, fun k _ h _ => hf6 k h⟩ (fun j _ e => e)
  have Y6 := hide (own_keepB (unhide Y4) (hf6 gV (by have := unhide GV; omega)))
  have HG := hide hgV
  have HV4 := hide hv4
  have HV6 := hide hv6
  have kp := (unhide P3).S
  have kpb := (unhide P3b).S
  have kpbf := (unhide P3b).F
  clear hgV hv4 hv6 hP6 hf6 hb6 pv sv T3
  go_upto_region 3 with fail
  rw [← unhide HG, ← unhide HV4]
  clear kp kpb kpbf HV4 P3 P3b T4 Y4 HG
  have kp := (unhide P4).S
  have kpf := (unhide P4).F
  go_upto_region 4 with fail
  rw [← unhide HV6]
  clear kp kpf HV6 P4
  have P7 := hide (unhide P6).drew
  have T7 : Hid (Two P none w v6.drew) := (unhide T6).trans (Two.of_below (Below.refl _ _).drew) (fun j _ e => e)
  have Y7 := hide ((heldZ_of (unhide Y6)).below (Below.refl _ _).drew (Nat.le_refl _)).own
  have kp := (unhide P6).S
  clear P6 T6 Y6
  go_wp2_with fail
  refine wp_region_held_drew (S := fun w' => ∀ o, w'.cell? ⟨P, o, none⟩ = (#[.int .i64 id, .int .i64 (nd : Int), .int .i64 t1, .int .i64 id, .int .i64 1, .bool up, .slice a n cap, .int .i64 (c : Int), .int .i64 0, .int .i64 (5 + (dr : Int) % 8), .slice (some ⟨gV, 0, none⟩) 1 1, .slice ax nx cx, .slice ag ng cg] : Array Value)[o]?) (by kernel_rfl) kp (fun hHeld => ?_)
  generalize v6.drew = v7 at P7 T7 Y7 hHeld ⊢
  refine wtk (i := 0) (oi := oSdI21) (v := ?_) rfl (Or.inl ⟨by rfl, ?_⟩) (by assumption) ?_
  rotate_left 1
  · (intro w' hSw; (try dsimp only at hSw); go_simp; try with_reducible rfl)
  try simp only [Act.put, qqA, qqB, qqC]
  refine wtk (i := 1) (oi := oSdI22) (v := ?_) rfl (Or.inl ⟨by rfl, ?_⟩) (by assumption) ?_
  rotate_left 1
  · (intro w' hSw; (try dsimp only at hSw); go_simp; try with_reducible rfl)
  try simp only [Act.put, qqA, qqB, qqC]
  refine wtk (i := 2) (oi := oSdI23) (v := ?_) rfl (Or.inl ⟨by rfl, ?_⟩) (by assumption) ?_
  rotate_left 1
  · (intro w' hSw; (try dsimp only at hSw); go_simp; try with_reducible rfl)
  try simp only [Act.put, qqA, qqB, qqC]
  refine wtk (i := 3) (oi := oSdI24) (v := ?_) rfl (Or.inl ⟨by rfl, ?_⟩) (by assumption) ?_
  rotate_left 1
  · (intro w' hSw; (try dsimp only at hSw); go_simp; try with_reducible rfl)
  try simp only [Act.put, qqA, qqB, qqC]
  refine wtk (i := 4) (oi := oSdI25) (v := ?_) rfl (Or.inl ⟨by rfl, ?_⟩) (by assumption) ?_
  rotate_left 1
  · (intro w' hSw; (try dsimp only at hSw); go_simp; try with_reducible rfl)
  try simp only [Act.put, qqA, qqB, qqC]
  refine wtk (i := 5) (oi := oSdI26) (v := ?_) rfl (Or.inl ⟨by rfl, ?_⟩) (by assumption) ?_
  rotate_left 1
  · (intro w' hSw; (try dsimp only at hSw); go_simp; try with_reducible rfl)
  try simp only [Act.put, qqA, qqB, qqC]
  refine wtk (i := 6) (oi := oSdI27) (v := ?_) rfl (Or.inl ⟨by rfl, ?_⟩) (by assumption) ?_
  rotate_left 1
  · (intro w' hSw; (try dsimp only at hSw); go_simp; try with_reducible rfl)
  try simp only [Act.put, qqA, qqB, qqC]
  refine wtk (i := 7) (oi := oSdI28) (v := ?_) rfl (Or.inl ⟨by rfl, ?_⟩) (by assumption) ?_
  rotate_left 1
  · (intro w' hSw; (try dsimp only at hSw); go_simp; try with_reducible rfl)
  try simp only [Act.put, qqA, qqB, qqC]
  refine wpAnyH_ready (rs := [8]) (by kernel_rfl) (by simp) ?_
  refine AllReadyH.cons (o := oSdI29) rfl (fun K hK => ?_) AllReadyH.nil
  go_simp
  refine (imth id nd t1 id 1 (c : Int) 0 (5 + (dr : Int) % 8) up a cap n (some ⟨gV, 0, none⟩) 1 1 ax cx nx ag cg ng 1 (by decide) (by omega) false HRR _).mono ?_
  rintro e v8 ⟨rfl, hb⟩
  have P8 := hide ((unhide P7).below hb)
  have T8 : Hid (Two P none w v8) := (unhide T7).trans (Two.of_below hb) (fun j _ e => e)
  have Y8 := hide (((heldZ_of (unhide Y7)).below hb (Nat.le_refl _)).own)
  clear hb P7 T7 Y7
  go_wp2_with fail
  refine hK.out _ _ ?_ (fun hHeld8 => ?_)
  · exact (unhide P8).S
  clear hK K
  try simp only [Act.put, qqA, qqB, qqC]
  refine wpAnyH_done (by kernel_rfl) ?_ _
  clear kp hHeld
  have E8 : Hid (v8.ownsRow lo 68 2 (.slice a n cap) n (cE l)) := own_two (unhide EW) (unhide T8) (unhide EP)
  have kp := (unhide P8).S
  go_wp2_with fail
  refine (iask id nd t1 id 1 c 0 (5 + (dr : Int) % 8) up a cap n (some ⟨gV, 0, none⟩) 1 1 ax cx nx ag cg ng l HN (by omega) TT HT hnd _ (rowZ_at (unhide E8))).mono ?_
  rintro e v9 ⟨vm, LL, rfl, hL, hM, hb⟩
  have FIN : Hid (BF P #[.int .i64 id, .int .i64 (nd : Int), .int .i64 t1, .int .i64 id, .int .i64 1, .bool up, .slice a n cap, .int .i64 (c : Int), .int .i64 0, .int .i64 (5 + (dr : Int) % 8), .slice (some ⟨gV, 0, none⟩) 1 1, .slice ax nx cx, .slice ag ng cg] v9 ∧ v9.ownsRow w.heap.size 3 1 (.slice (some ⟨gV, 0, none⟩) 1 1) 1 [.int .i64 id] ∧ (P < v8.heap.size ∧ gV < v8.heap.size ∧ w.heap.size ≤ v8.heap.size) ∧ Two P none w v9) := ⟨(unhide P8).below hb, ((heldZ_of (unhide Y8)).below hb (Nat.le_refl _)).own, ⟨(unhide P8).lt, ((unhide Y8).lt gV rfl).2, (unhide T8).size⟩, (unhide T8).trans (Two.of_below hb) (fun j _ e => e)⟩
  obtain ⟨am, cm9, rfl, -⟩ := ownZ_rowV hM.row
  have HM := hide hM
  have HLL := hide hL
  clear hb hM hL P8 T8 Y8 E8 kp
  go_wp2_with fail
  go_ret
  obtain ⟨f1, f2, f3, f4⟩ := unhide FIN
  exact ⟨gV, _, LL, v8.heap.size, rfl, f1, f2, f3, unhide HLL, unhide HM, f4⟩
set_option maxHeartbeats 4000000 in
set_option maxRecDepth 100000 in
theorem istand_one (P lo : Nat) (id : Int) (nd : Nat) (tm vt ro : Int) (c : Nat) (el wt : Int) (up : Bool) (a : Option Addr) (cap n : Nat) (av : Option Addr) (cv nv : Nat) (ax : Option Addr) (cx nx : Nat) (ag : Option Addr) (cg ng : Nat) (l : List Ent) (HN : Hid (l.length = n)) (hn : n ≤ 60) (hnc : n ≤ cap) (hnd : nd ≤ 5) (hnd1 : 1 ≤ nd) (hcn : c ≤ n) (dr : Nat) (hdr : dr ≤ 1000000) (htm : 0 ≤ tm ∧ tm ≤ 1000) (t1 : Int) (HT1 : Hid (t1 = tm + 1)) (h2 : nd = 1) (w : World) (hP : BF P #[.int .i64 id, .int .i64 (nd : Int), .int .i64 tm, .int .i64 vt, .int .i64 ro, .bool up, .slice a n cap, .int .i64 (c : Int), .int .i64 el, .int .i64 wt, .slice av nv cv, .slice ax nx cx, .slice ag ng cg] w) (hlo : lo ≤ P) (hE : w.ownsRow lo 68 2 (.slice a n cap) n (cE l)) (hEP : (Value.slice a n cap).ownBlock ≠ some P) :
    Calls Try.prog 49 #[.pointer (some ⟨P, 0, none⟩), .int .i64 (dr : Int)] w fun e w' => ∃ ea ec gN gM gV vm LL lom, e = .returned vm ∧ BF P #[.int .i64 id, .int .i64 (nd : Int), .int .i64 t1, .int .i64 id, .int .i64 2, .bool up, .slice ea (ldL t1 l).length ec, .int .i64 ((advN id t1 nd (ldL t1 l) (List.replicate nd (0 : Int)) c (ldL t1 l).length : Nat) : Int), .int .i64 0, .int .i64 (5 + (dr : Int) % 8), .slice (some ⟨gV, 0, none⟩) 1 1, .slice (some ⟨gN, 0, none⟩) nd nd, .slice (some ⟨gM, 0, none⟩) nd nd] w' ∧ w'.ownsRow lo 68 2 (.slice ea (ldL t1 l).length ec) (ldL t1 l).length (cE (ldL t1 l)) ∧ w'.ownsRow w.heap.size 3 1 (.slice (some ⟨gV, 0, none⟩) 1 1) 1 [.int .i64 id] ∧ w'.ownsRow w.heap.size 3 1 (.slice (some ⟨gN, 0, none⟩) nd nd) nd (cI (List.replicate nd ((n : Int) + 1))) ∧ w'.ownsRow w.heap.size 3 1 (.slice (some ⟨gM, 0, none⟩) nd nd) nd (cI (List.replicate nd (0 : Int))) ∧ (gN ≠ gM ∧ gV ≠ gN ∧ gV ≠ gM) ∧ (∀ j, (Value.slice ea (ldL t1 l).length ec).ownBlock = some j → j ≠ P) ∧ (P < lom ∧ (∀ j, (Value.slice ea (ldL t1 l).length ec).ownBlock = some j → j < lom) ∧ gN < lom ∧ gM < lom ∧ gV < lom ∧ w.heap.size ≤ lom) ∧ LL.map (·.1) = tls id t1 ((advN id t1 nd (ldL t1 l) (List.replicate nd (0 : Int)) c (ldL t1 l).length : Nat) : Int) (ldL t1 l) (fun _ => n) nd ∧ MOwn w' lom vm LL ∧ Two P (Value.slice a n cap).ownBlock w w' := by
  have EP := hide hEP
  have HRR : Hid (true = decide (nd < 2 * 1)) := by show _ = _; rw [decide_eq_true (by omega)]
  have H2 := hide h2
  clear h2
  have EW := hide hE
  have LP : Hid (lo ≤ P) := hlo
  have PW : Hid (P < w.heap.size) := hP.lt
  have ew : IntKind.i64.wrap (tm + 1) = t1 := by rw [unhide HT1]; exact wrapi _ (by omega) (by omega)
  have ed : IntKind.i64.wrap (5 + (dr : Int) % 8) = 5 + (dr : Int) % 8 := wrapi _ (by omega) (by omega)
  have hd0 : (0 : Int) ≤ (dr : Int) := by omega
  have P0 := hide hP.drew
  have T0 : Hid (Two P none w w.drew) := Two.of_below (Below.refl _ _).drew
  have kp := hP.S
  clear hP hE hEP hlo
  go_enter Try.func49, Try.ntmps49
  go_wp2_with fail
  refine wp_region_held_drew (S := fun w' => ∀ o, (o ≠ 2 ∧ o ≠ 3 ∧ o ≠ 4) → w'.cell? ⟨P, o, none⟩ = (#[.int .i64 id, .int .i64 (nd : Int), .int .i64 tm, .int .i64 vt, .int .i64 ro, .bool up, .slice a n cap, .int .i64 (c : Int), .int .i64 el, .int .i64 wt, .slice av nv cv, .slice ax nx cx, .slice ag ng cg] : Array Value)[o]?) (by kernel_rfl) (fun o _ => kp o) (fun hHeld => ?_)
  generalize w.drew = v0 at P0 T0 hHeld ⊢
  refine wtk (i := 0) (oi := oSdI0) (v := ?_) rfl (Or.inl ⟨by rfl, ?_⟩) (by assumption) ?_
  rotate_left 1
  · (intro w' hSw; (try dsimp only at hSw); go_simp; try with_reducible rfl)
  try simp only [Act.put, qqA, qqB, qqC]
  refine wtk (i := 1) (oi := oSdI1) (v := ?_) rfl (Or.inl ⟨by rfl, ?_⟩) (by assumption) ?_
  rotate_left 1
  · (intro w' hSw; (try dsimp only at hSw); go_simp; try with_reducible rfl)
  try simp only [Act.put, qqA, qqB, qqC]
  refine wtk (i := 2) (oi := oSdI2) (v := ?_) rfl (Or.inl ⟨by rfl, ?_⟩) (by assumption) ?_
  rotate_left 1
  · (intro w' hSw; (try dsimp only at hSw); go_simp; try with_reducible rfl)
  try simp only [Act.put, qqA, qqB, qqC]
  refine wtk (i := 3) (oi := oSdI3) (v := ?_) rfl (Or.inl ⟨by rfl, ?_⟩) (by assumption) ?_
  rotate_left 1
  · (intro w' hSw; (try dsimp only at hSw); go_simp; try with_reducible rfl)
  try simp only [Act.put, qqA, qqB, qqC]
  refine wtk (i := 4) (oi := oSdI4) (v := ?_) rfl (Or.inl ⟨by rfl, ?_⟩) (by assumption) ?_
  rotate_left 1
  · (intro w' hSw; (try dsimp only at hSw); go_simp; try with_reducible rfl)
  try simp only [Act.put, qqA, qqB, qqC]
  refine wtk (i := 5) (oi := oSdI5) (v := ?_) rfl (Or.inl ⟨by rfl, ?_⟩) (by assumption) ?_
  rotate_left 1
  · (intro w' hSw; (try dsimp only at hSw); go_simp; try with_reducible rfl)
  try simp only [Act.put, qqA, qqB, qqC]
  refine wtk (i := 8) (oi := oSdI6) (v := ?_) rfl (Or.inl ⟨by rfl, ?_⟩) (by assumption) ?_
  rotate_left 1
  · (intro w' hSw; (try dsimp only at hSw); go_simp; try with_reducible rfl)
  try simp only [Act.put, qqA, qqB, qqC]
  refine wtk (i := 9) (oi := oSdI7) (v := ?_) rfl (Or.inl ⟨by rfl, ?_⟩) (by assumption) ?_
  rotate_left 1
  · (intro w' hSw; (try dsimp only at hSw); go_simp; try with_reducible rfl)
  try simp only [Act.put, qqA, qqB, qqC]
  refine wtk (i := 10) (oi := oSdI8) (v := ?_) rfl (Or.inl ⟨by rfl, ?_⟩) (by assumption) ?_
  rotate_left 1
  · (intro w' hSw; (try dsimp only at hSw); go_simp; try with_reducible rfl)
  try simp only [Act.put, qqA, qqB, qqC]
  refine wtk (i := 11) (oi := oSdI9) (v := ?_) rfl (Or.inl ⟨by rfl, ?_⟩) (by assumption) ?_
  rotate_left 1
  · (intro w' hSw; (try dsimp only at hSw); go_simp; try with_reducible rfl)
  try simp only [Act.put, qqA, qqB, qqC]
  refine wpAnyH_ready (rs := [6]) (by kernel_rfl) (by simp) ?_
  refine AllReadyH.cons (o := oSdI10) rfl (fun K hK => ?_) AllReadyH.nil
  have kq := (unhide P0).S
  go_simp
  refine hK.out _ _ ?_ (fun hHeld6 => ?_)
  · exact fun o _ => (unhide P0).S o
  clear hK K
  try simp only [Act.put, qqA, qqB, qqC]
  clear kq
  refine wtk (i := 7) (oi := oSdI11) (v := ?_) rfl (Or.inl ⟨by rfl, ?_⟩) (by assumption) ?_
  rotate_left 1
  · (intro w' hSw; (try dsimp only at hSw); go_simp; try with_reducible rfl)
  try simp only [Act.put, qqA, qqB, qqC]
  refine wtk (i := 12) (oi := oSdI12) (v := ?_) rfl (Or.inl ⟨by rfl, ?_⟩) (by assumption) ?_
  rotate_left 1
  · (intro w' hSw; (try dsimp only at hSw); go_simp; try with_reducible rfl)
  try simp only [Act.put, qqA, qqB, qqC]
  refine wtk (i := 13) (oi := oSdI13) (v := ?_) rfl (Or.inl ⟨by rfl, ?_⟩) (by assumption) ?_
  rotate_left 1
  · (intro w' hSw; (try dsimp only at hSw); go_simp; try with_reducible rfl)
  try simp only [Act.put, qqA, qqB, qqC]
  refine wpAnyH_ready (rs := [14]) (by kernel_rfl) (by simp) ?_
  refine AllReadyH.cons (o := oSdI14) rfl (fun K hK => ?_) AllReadyH.nil
  have kq := (unhide P0).S
  have kqf := (unhide P0).F
  obtain ⟨v1, hv⟩ : ∃ v9, v9 = v0.setCell ⟨P, 2, none⟩ (.int .i64 t1) := ⟨_, rfl⟩
  have P1 : Hid (BF P #[.int .i64 id, .int .i64 (nd : Int), .int .i64 t1, .int .i64 vt, .int .i64 ro, .bool up, .slice a n cap, .int .i64 (c : Int), .int .i64 el, .int .i64 wt, .slice av nv cv, .slice ax nx cx, .slice ag ng cg] v1) := by rw [hv]; exact (unhide P0).set 2 (by simp) _
  have T1 : Hid (Two P none w v1) := by rw [hv]; exact (unhide T0).set
  have k9 : ∀ o, (o ≠ 2 ∧ o ≠ 3 ∧ o ≠ 4) → v1.cell? ⟨P, o, none⟩ = (#[.int .i64 id, .int .i64 (nd : Int), .int .i64 tm, .int .i64 vt, .int .i64 ro, .bool up, .slice a n cap, .int .i64 (c : Int), .int .i64 el, .int .i64 wt, .slice av nv cv, .slice ax nx cx, .slice ag ng cg] : Array Value)[o]? := fun o ho => by rw [(unhide P1).S o]; exact arr234 _ _ _ _ _ _ _ _ _ _ _ _ _ _ _ _ o ho
  go_simp
  rw [← hv]
  refine hK.out _ _ ?_ (fun hHeld14 => ?_)
  · exact k9
  clear hK K
  try simp only [Act.put, qqA, qqB, qqC]
  clear hv kq kqf k9 P0 T0
  refine wtk (i := 15) (oi := oSdI15) (v := ?_) rfl (Or.inl ⟨by rfl, ?_⟩) (by assumption) ?_
  rotate_left 1
  · (intro w' hSw; (try dsimp only at hSw); go_simp; try with_reducible rfl)
  try simp only [Act.put, qqA, qqB, qqC]
  refine wtk (i := 16) (oi := oSdI16) (v := ?_) rfl (Or.inl ⟨by rfl, ?_⟩) (by assumption) ?_
  rotate_left 1
  · (intro w' hSw; (try dsimp only at hSw); go_simp; try with_reducible rfl)
  try simp only [Act.put, qqA, qqB, qqC]
  refine wpAnyH_ready (rs := [17]) (by kernel_rfl) (by simp) ?_
  refine AllReadyH.cons (o := oSdI17) rfl (fun K hK => ?_) AllReadyH.nil
  have kq := (unhide P1).S
  have kqf := (unhide P1).F
  obtain ⟨v2, hv⟩ : ∃ v9, v9 = v1.setCell ⟨P, 3, none⟩ (.int .i64 id) := ⟨_, rfl⟩
  have P2 : Hid (BF P #[.int .i64 id, .int .i64 (nd : Int), .int .i64 t1, .int .i64 id, .int .i64 ro, .bool up, .slice a n cap, .int .i64 (c : Int), .int .i64 el, .int .i64 wt, .slice av nv cv, .slice ax nx cx, .slice ag ng cg] v2) := by rw [hv]; exact (unhide P1).set 3 (by simp) _
  have T2 : Hid (Two P none w v2) := by rw [hv]; exact (unhide T1).set
  have k9 : ∀ o, (o ≠ 2 ∧ o ≠ 3 ∧ o ≠ 4) → v2.cell? ⟨P, o, none⟩ = (#[.int .i64 id, .int .i64 (nd : Int), .int .i64 tm, .int .i64 vt, .int .i64 ro, .bool up, .slice a n cap, .int .i64 (c : Int), .int .i64 el, .int .i64 wt, .slice av nv cv, .slice ax nx cx, .slice ag ng cg] : Array Value)[o]? := fun o ho => by rw [(unhide P2).S o]; exact arr234 _ _ _ _ _ _ _ _ _ _ _ _ _ _ _ _ o ho
  go_simp
  rw [← hv]
  refine hK.out _ _ ?_ (fun hHeld17 => ?_)
  · exact k9
  clear hK K
  try simp only [Act.put, qqA, qqB, qqC]
  clear hv kq kqf k9 P1 T1
  refine wtk (i := 18) (oi := oSdI18) (v := ?_) rfl (Or.inl ⟨by rfl, ?_⟩) (by assumption) ?_
  rotate_left 1
  · (intro w' hSw; (try dsimp only at hSw); go_simp; try with_reducible rfl)
  try simp only [Act.put, qqA, qqB, qqC]
  refine wtk (i := 19) (oi := oSdI19) (v := ?_) rfl (Or.inl ⟨by rfl, ?_⟩) (by assumption) ?_
  rotate_left 1
  · (intro w' hSw; (try dsimp only at hSw); go_simp; try with_reducible rfl)
  try simp only [Act.put, qqA, qqB, qqC]
  refine wpAnyH_ready (rs := [20]) (by kernel_rfl) (by simp) ?_
  refine AllReadyH.cons (o := oSdI20) rfl (fun K hK => ?_) AllReadyH.nil
  have kq := (unhide P2).S
  have kqf := (unhide P2).F
  obtain ⟨v3, hv⟩ : ∃ v9, v9 = v2.setCell ⟨P, 4, none⟩ (.int .i64 1) := ⟨_, rfl⟩
  have P3 : Hid (BF P #[.int .i64 id, .int .i64 (nd : Int), .int .i64 t1, .int .i64 id, .int .i64 1, .bool up, .slice a n cap, .int .i64 (c : Int), .int .i64 el, .int .i64 wt, .slice av nv cv, .slice ax nx cx, .slice ag ng cg] v3) := by rw [hv]; exact (unhide P2).set 4 (by simp) _
  have T3 : Hid (Two P none w v3) := by rw [hv]; exact (unhide T2).set
  have k9 : ∀ o, (o ≠ 2 ∧ o ≠ 3 ∧ o ≠ 4) → v3.cell? ⟨P, o, none⟩ = (#[.int .i64 id, .int .i64 (nd : Int), .int .i64 tm, .int .i64 vt, .int .i64 ro, .bool up, .slice a n cap, .int .i64 (c : Int), .int .i64 el, .int .i64 wt, .slice av nv cv, .slice ax nx cx, .slice ag ng cg] : Array Value)[o]? := fun o ho => by rw [(unhide P3).S o]; exact arr234 _ _ _ _ _ _ _ _ _ _ _ _ _ _ _ _ o ho
  go_simp
  rw [← hv]
  refine hK.out _ _ ?_ (fun hHeld20 => ?_)
  · exact k9
  clear hK K
  try simp only [Act.put, qqA, qqB, qqC]
  clear hv kq kqf k9 P2 T2
  refine wpAnyH_done (by kernel_rfl) ?_ _
  clear kp hHeld
  obtain ⟨gV, hgV⟩ : ∃ q, q = v3.heap.size := ⟨_, rfl⟩
  have P3b := hide (BF.alloc (unhide P3) (.cells #[.int .i64 id] 3))
  obtain ⟨v4, hv4⟩ : ∃ v9, v9 = (v3.alloc (.cells #[.int .i64 id] 3)).setCell ⟨P, 10, none⟩ (.slice (some ⟨gV, 0, none⟩) 1 1) := ⟨_, rfl⟩
  have P4 : Hid (BF P #[.int .i64 id, .int .i64 (nd : Int), .int .i64 t1, .int .i64 id, .int .i64 1, .bool up, .slice a n cap, .int .i64 (c : Int), .int .i64 el, .int .i64 wt, .slice (some ⟨gV, 0, none⟩) 1 1, .slice ax nx cx, .slice ag ng cg] v4) := by rw [hv4]; exact (unhide P3b).set 10 (by simp) _
  have T4 : Hid (Two P none w v4) := by rw [hv4]; exact ((unhide T3).trans (Two.of_below (Go.Joins.below_alloc1 v3 _)) (fun j _ e => e)).set
  have pv : P < v3.heap.size := (unhide P3).lt
  have sv := (unhide T3).size
  have Y4 : Hid (v4.ownsRow w.heap.size 3 1 (.slice (some ⟨gV, 0, none⟩) 1 1) 1 [.int .i64 id]) := by
    have h := lit_one v3 3 v3.heap.size (.int .i64 id) (Nat.le_refl _)
    have h2 := own_low (ownsRow_setCell_below h (a := ⟨P, 10, none⟩) pv (.slice (some ⟨gV, 0, none⟩) 1 1)) sv
    rw [← hgV] at h2
    rw [hv4]; exact h2
  have GV : Hid (P < gV ∧ w.heap.size ≤ gV) := by show _ ∧ _; omega
  obtain ⟨v6, hv6, hP6, hf6, hb6⟩ := put2 v4 (unhide P4) (o1 := 8) (o2 := 9) (by simp) (by simp) (.int .i64 0) (.int .i64 (5 + (dr : Int) % 8))
  have P6 : Hid (BF P #[.int .i64 id, .int .i64 (nd : Int), .int .i64 t1, .int .i64 id, .int .i64 1, .bool up, .slice a n cap, .int .i64 (c : Int), .int .i64 0, .int .i64 (5 + (dr : Int) % 8), .slice (some ⟨gV, 0, none⟩) 1 1, .slice ax nx cx, .slice ag ng cg] v6) := hP6
  have T6 : Hid (Two P none w v6) := (unhide T4).trans ⟨hb6.os, hb6.tape, hb6.output, hb6.size, fun k _ h _ => hf6 k h⟩ (fun j _ e => e)
  have Y6 := hide (own_keepB (unhide Y4) (hf6 gV (by have := unhide GV; omega)))
  have HG := hide hgV
  have HV4 := hide hv4
  have HV6 := hide hv6
  have kp := (unhide P3).S
  have kpb := (unhide P3b).S
  have kpbf := (unhide P3b).F
  clear hgV hv4 hv6 hP6 hf6 hb6 pv sv T3
  go_upto_region 3 with fail
  rw [← unhide HG, ← unhide HV4]
  clear kp kpb kpbf HV4 P3 P3b T4 Y4 HG
  have kp := (unhide P4).S
  have kpf := (unhide P4).F
  go_upto_region 4 with fail
  rw [← unhide HV6]
  clear kp kpf HV6 P4
  have P7 := hide (unhide P6).drew
  have T7 : Hid (Two P none w v6.drew) := (unhide T6).trans (Two.of_below (Below.refl _ _).drew) (fun j _ e => e)
  have Y7 := hide ((heldZ_of (unhide Y6)).below (Below.refl _ _).drew (Nat.le_refl _)).own
  have kp := (unhide P6).S
  clear P6 T6 Y6
  go_wp2_with fail
  refine wp_region_held_drew (S := fun w' => ∀ o, w'.cell? ⟨P, o, none⟩ = (#[.int .i64 id, .int .i64 (nd : Int), .int .i64 t1, .int .i64 id, .int .i64 1, .bool up, .slice a n cap, .int .i64 (c : Int), .int .i64 0, .int .i64 (5 + (dr : Int) % 8), .slice (some ⟨gV, 0, none⟩) 1 1, .slice ax nx cx, .slice ag ng cg] : Array Value)[o]?) (by kernel_rfl) kp (fun hHeld => ?_)
  generalize v6.drew = v7 at P7 T7 Y7 hHeld ⊢
  refine wtk (i := 0) (oi := oSdI21) (v := ?_) rfl (Or.inl ⟨by rfl, ?_⟩) (by assumption) ?_
  rotate_left 1
  · (intro w' hSw; (try dsimp only at hSw); go_simp; try with_reducible rfl)
  try simp only [Act.put, qqA, qqB, qqC]
  refine wtk (i := 1) (oi := oSdI22) (v := ?_) rfl (Or.inl ⟨by rfl, ?_⟩) (by assumption) ?_
  rotate_left 1
  · (intro w' hSw; (try dsimp only at hSw); go_simp; try with_reducible rfl)
  try simp only [Act.put, qqA, qqB, qqC]
  refine wtk (i := 2) (oi := oSdI23) (v := ?_) rfl (Or.inl ⟨by rfl, ?_⟩) (by assumption) ?_
  rotate_left 1
  · (intro w' hSw; (try dsimp only at hSw); go_simp; try with_reducible rfl)
  try simp only [Act.put, qqA, qqB, qqC]
  refine wtk (i := 3) (oi := oSdI24) (v := ?_) rfl (Or.inl ⟨by rfl, ?_⟩) (by assumption) ?_
  rotate_left 1
  · (intro w' hSw; (try dsimp only at hSw); go_simp; try with_reducible rfl)
  try simp only [Act.put, qqA, qqB, qqC]
  refine wtk (i := 4) (oi := oSdI25) (v := ?_) rfl (Or.inl ⟨by rfl, ?_⟩) (by assumption) ?_
  rotate_left 1
  · (intro w' hSw; (try dsimp only at hSw); go_simp; try with_reducible rfl)
  try simp only [Act.put, qqA, qqB, qqC]
  refine wtk (i := 5) (oi := oSdI26) (v := ?_) rfl (Or.inl ⟨by rfl, ?_⟩) (by assumption) ?_
  rotate_left 1
  · (intro w' hSw; (try dsimp only at hSw); go_simp; try with_reducible rfl)
  try simp only [Act.put, qqA, qqB, qqC]
  refine wtk (i := 6) (oi := oSdI27) (v := ?_) rfl (Or.inl ⟨by rfl, ?_⟩) (by assumption) ?_
  rotate_left 1
  · (intro w' hSw; (try dsimp only at hSw); go_simp; try with_reducible rfl)
  try simp only [Act.put, qqA, qqB, qqC]
  refine wtk (i := 7) (oi := oSdI28) (v := ?_) rfl (Or.inl ⟨by rfl, ?_⟩) (by assumption) ?_
  rotate_left 1
  · (intro w' hSw; (try dsimp only at hSw); go_simp; try with_reducible rfl)
  try simp only [Act.put, qqA, qqB, qqC]
  refine wpAnyH_ready (rs := [8]) (by kernel_rfl) (by simp) ?_
  refine AllReadyH.cons (o := oSdI29) rfl (fun K hK => ?_) AllReadyH.nil
  go_simp
  refine (imth id nd t1 id 1 (c : Int) 0 (5 + (dr : Int) % 8) up a cap n (some ⟨gV, 0, none⟩) 1 1 ax cx nx ag cg ng 1 (by decide) (by omega) true HRR _).mono ?_
  rintro e v8 ⟨rfl, hb⟩
  have P8 := hide ((unhide P7).below hb)
  have T8 : Hid (Two P none w v8) := (unhide T7).trans (Two.of_below hb) (fun j _ e => e)
  have Y8 := hide (((heldZ_of (unhide Y7)).below hb (Nat.le_refl _)).own)
  clear hb P7 T7 Y7
  go_wp2_with fail
  refine hK.out _ _ ?_ (fun hHeld8 => ?_)
  · exact (unhide P8).S
  clear hK K
  try simp only [Act.put, qqA, qqB, qqC]
  refine wpAnyH_done (by kernel_rfl) ?_ _
  clear kp hHeld
  have E8 : Hid (v8.ownsRow lo 68 2 (.slice a n cap) n (cE l)) := own_two (unhide EW) (unhide T8) (unhide EP)
  have kp := (unhide P8).S
  have GW : Hid (gV ≠ P ∧ gV < v8.heap.size ∧ (Value.slice a n cap).ownBlock ≠ some gV) := ⟨by have := unhide GV; omega, ((unhide Y8).lt gV rfl).2, fun e => by have := ((unhide EW).lt _ e).2; have := unhide GV; omega⟩
  go_wp2_with fail
  refine (ilead P lo id nd t1 id 1 c 0 (5 + (dr : Int) % 8) up a cap n (some ⟨gV, 0, none⟩) 1 1 ax cx nx ag cg ng l HN hn hnc hnd hnd1 hcn v8 (unhide P8) (unhide LP) (unhide E8) (unhide EP)).mono ?_
  rintro e v9 ⟨ea, ec, gN, gM, vm, LL, lom, rfl, f1, f2, f3, f4, f5, f6, f7, f8, f9, f10⟩
  have FIN : Hid (BF P #[.int .i64 id, .int .i64 (nd : Int), .int .i64 t1, .int .i64 id, .int .i64 2, .bool up, .slice ea (ldL t1 l).length ec, .int .i64 ((advN id t1 nd (ldL t1 l) (List.replicate nd (0 : Int)) c (ldL t1 l).length : Nat) : Int), .int .i64 0, .int .i64 (5 + (dr : Int) % 8), .slice (some ⟨gV, 0, none⟩) 1 1, .slice (some ⟨gN, 0, none⟩) nd nd, .slice (some ⟨gM, 0, none⟩) nd nd] v9 ∧ v9.ownsRow lo 68 2 (.slice ea (ldL t1 l).length ec) (ldL t1 l).length (cE (ldL t1 l)) ∧ v9.ownsRow w.heap.size 3 1 (.slice (some ⟨gV, 0, none⟩) 1 1) 1 [.int .i64 id] ∧ v9.ownsRow w.heap.size 3 1 (.slice (some ⟨gN, 0, none⟩) nd nd) nd (cI (List.replicate nd ((n : Int) + 1))) ∧ v9.ownsRow w.heap.size 3 1 (.slice (some ⟨gM, 0, none⟩) nd nd) nd (cI (List.replicate nd (0 : Int))) ∧ (gN ≠ gM ∧ gV ≠ gN ∧ gV ≠ gM) ∧ (∀ j, (Value.slice ea (ldL t1 l).length ec).ownBlock = some j → j ≠ P) ∧ (P < lom ∧ (∀ j, (Value.slice ea (ldL t1 l).length ec).ownBlock = some j → j < lom) ∧ gN < lom ∧ gM < lom ∧ gV < lom ∧ w.heap.size ≤ lom) ∧ Two P (Value.slice a n cap).ownBlock w v9) := by
    have g := unhide GW
    have yN := (f3.lt gN rfl).1
    have yM := (f4.lt gM rfl).1
    have sz := (unhide T8).size
    refine ⟨f1, f2, own_keepB (unhide Y8) (f10.block gV g.2.1 g.1 g.2.2), own_low f3 sz, own_low f4 sz, ⟨f5, by omega, by omega⟩, fun j hj => (f6 j hj).1, ⟨f7.1, f7.2.1, f7.2.2.1, f7.2.2.2, by omega, by omega⟩, Two.trans ⟨(unhide T8).os, (unhide T8).tape, (unhide T8).output, (unhide T8).size, fun k hk h1 _ => (unhide T8).block k hk h1 (fun e => by cases e)⟩ f10 (fun j _ e => e)⟩
  obtain ⟨am, cm9, rfl, -⟩ := ownZ_rowV f9.row
  have HM := hide f9
  have HLL := hide f8
  clear f1 f2 f3 f4 f5 f6 f7 f8 f9 f10 P8 T8 Y8 E8 kp GW
  go_wp2_with fail
  go_ret
  obtain ⟨g1, g2, g3, g4, g5, g6, g7, g8, g9⟩ := unhide FIN
  exact ⟨ea, ec, gN, gM, gV, _, LL, lom, rfl, g1, g2, g3, g4, g5, g6, g7, g8, unhide HLL, unhide HM, g9⟩
end Go.Proofs.Ytjlajpnhcphngaa
