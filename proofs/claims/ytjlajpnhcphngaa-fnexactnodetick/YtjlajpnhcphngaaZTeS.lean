/- The specification's tell. -/
import Derived.Test.YtjlajpnhcphngaaZSnS
import Derived.Test.YtjlajpnhcphngaaZUtS
namespace Go.Proofs.Ytjlajpnhcphngaa
open Go.ChangeShapes Go.WideShapes Go.ChangeAt Go.RowKit
set_option linter.unusedVariables false
abbrev oTeS0 : Oper := { dst := some 14, op := .move (.tmp 0), type := 64, pos := "l08_raft.go:74", after := #[], guard := none }
abbrev oTeS1 : Oper := { dst := some 15, op := .move (.tmp 1), type := 3, pos := "l08_raft.go:74", after := #[], guard := none }
abbrev oTeS2 : Oper := { dst := some 16, op := .move (.tmp 4), type := 3, pos := "l08_raft.go:74", after := #[], guard := none }
abbrev oTeS3 : Oper := { dst := some 17, op := .move (.tmp 0), type := 64, pos := "l08_raft.go:74", after := #[], guard := none }
abbrev oTeS4 : Oper := { dst := some 18, op := .nilCheck (.tmp 17), type := 0, pos := "l08_raft.go:74", after := #[{ on := 3, ground := .data }], guard := none }
abbrev oTeS5 : Oper := { dst := some 19, op := .fieldAddr 66 (.tmp 18) 0, type := 0, pos := "l08_raft.go:74", after := #[{ on := 4, ground := .data }], guard := none }
abbrev oTeS6 : Oper := { dst := some 20, op := .load 29 (.tmp 19), type := 29, pos := "l08_raft.go:74", after := #[{ on := 5, ground := .data }], guard := none }
abbrev oTeS7 : Oper := { dst := some 21, op := .move (.tmp 4), type := 3, pos := "l08_raft.go:74", after := #[], guard := none }
abbrev oTeS8 : Oper := { dst := some 23, op := .move (.tmp 0), type := 64, pos := "l08_raft.go:74", after := #[], guard := none }
abbrev oTeS9 : Oper := { dst := some 24, op := .nilCheck (.tmp 23), type := 0, pos := "l08_raft.go:74", after := #[{ on := 9, ground := .data }], guard := none }
abbrev oTeS10 : Oper := { dst := some 25, op := .fieldAddr 66 (.tmp 24) 0, type := 0, pos := "l08_raft.go:74", after := #[{ on := 10, ground := .data }], guard := none }
abbrev oTeS11 : Oper := { dst := some 26, op := .fieldAddr 29 (.tmp 25) 7, type := 0, pos := "l08_raft.go:74", after := #[{ on := 11, ground := .data }], guard := none }
abbrev oTeS12 : Oper := { dst := some 27, op := .load 3 (.tmp 26), type := 3, pos := "l08_raft.go:74", after := #[{ on := 12, ground := .data }], guard := none }
abbrev oTeS13 : Oper := { dst := some 29, op := .move (.tmp 0), type := 64, pos := "l08_raft.go:74", after := #[], guard := none }
abbrev oTeS14 : Oper := { dst := some 30, op := .nilCheck (.tmp 29), type := 0, pos := "l08_raft.go:74", after := #[{ on := 15, ground := .data }], guard := none }
abbrev oTeS15 : Oper := { dst := some 31, op := .fieldAddr 66 (.tmp 30) 0, type := 0, pos := "l08_raft.go:74", after := #[{ on := 16, ground := .data }], guard := none }
abbrev oTeS16 : Oper := { dst := some 32, op := .fieldAddr 29 (.tmp 31) 6, type := 0, pos := "l08_raft.go:74", after := #[{ on := 17, ground := .data }], guard := none }
abbrev oTeS17 : Oper := { dst := some 33, op := .load 27 (.tmp 32), type := 27, pos := "l08_raft.go:74", after := #[{ on := 18, ground := .data }], guard := none }
abbrev oTeS18 : Oper := { dst := some 34, op := .move (.tmp 4), type := 3, pos := "l08_raft.go:74", after := #[], guard := none }
abbrev oTeS19 : Oper := { dst := some 35, op := .slice 27 (.tmp 33) (some (.tmp 34)) none none, type := 27, pos := "l08_raft.go:74", after := #[{ on := 19, ground := .data }, { on := 20, ground := .data }], guard := none }
abbrev oTeS20 : Oper := { dst := some 22, op := .call { callee := .value (.func 63), args := #[.tmp 20, .tmp 21], argTypes := #[29, 3] }, type := 3, pos := "l08_raft.go:74", after := #[{ on := 6, ground := .data }, { on := 7, ground := .data }], guard := none }
abbrev oTeS21 : Oper := { dst := some 28, op := .buildSlice 27 0 #[], type := 27, pos := "l08_raft.go:74", after := #[], guard := none }
abbrev oTeS22 : Oper := { dst := some 36, op := .call { callee := .builtin Go.Builtin.append, args := #[.tmp 28, .tmp 35], argTypes := #[27, 27] }, type := 27, pos := "l08_raft.go:74", after := #[{ on := 14, ground := .data }, { on := 21, ground := .data }, { on := 8, ground := .chain }], guard := none }
abbrev oTeS23 : Oper := { dst := some 37, op := .build 54 #[(0, .const (.int .i64 3)), (2, .tmp 15), (4, .tmp 16), (5, .tmp 22), (6, .tmp 27), (8, .tmp 36)], type := 54, pos := "l08_raft.go:74", after := #[{ on := 1, ground := .data }, { on := 2, ground := .data }, { on := 8, ground := .data }, { on := 13, ground := .data }, { on := 22, ground := .data }], guard := none }
abbrev oTeS24 : Oper := { dst := some 38, op := .call { callee := .value (.func 62), args := #[.tmp 14, .tmp 37], argTypes := #[64, 54] }, type := 0, pos := "l08_raft.go:74", after := #[{ on := 0, ground := .data }, { on := 23, ground := .data }, { on := 22, ground := .chain }], guard := none }
theorem arr13 (x0 x1 x2 x3 x4 x5 x6 x7 x8 x9 xa xb xc y z : Value) (o : Nat) (ho : o ≠ 13) : (#[x0, x1, x2, x3, x4, x5, x6, x7, x8, x9, xa, xb, xc, y] : Array Value)[o]? = (#[x0, x1, x2, x3, x4, x5, x6, x7, x8, x9, xa, xb, xc, z] : Array Value)[o]? := by
  rcases Nat.lt_or_ge o 14 with h | h
  · have hh : o = 0 ∨ o = 1 ∨ o = 2 ∨ o = 3 ∨ o = 4 ∨ o = 5 ∨ o = 6 ∨ o = 7 ∨ o = 8 ∨ o = 9 ∨ o = 10 ∨ o = 11 ∨ o = 12 := by omega
    rcases hh with rfl | rfl | rfl | rfl | rfl | rfl | rfl | rfl | rfl | rfl | rfl | rfl | rfl <;> rfl
  · rw [Array.getElem?_eq_none (by simpa using h), Array.getElem?_eq_none (by simpa using h)]
set_option maxHeartbeats 4000000 in
set_option maxRecDepth 100000 in
theorem stell (P : Nat) (id : Int) (nd : Nat) (tm vt ro : Int) (c : Nat) (el wt : Int) (up : Bool) (a : Option Addr) (cap n : Nat) (av : Option Addr) (cv nv : Nat) (ax : Option Addr) (cx nx : Nat) (ag : Option Addr) (cg ng : Nat) (ao : Option Addr) (no co : Nat) (lo : Nat) (L : List MgA) (HNO : Hid (L.length = no)) (hno : no ≤ 1000) (l : List Ent) (HN : Hid (l.length = n)) (hn : n ≤ 1048576) (lx : List Int) (t j : Nat) (ht : t < lx.length) (hj : lx[t] = (j : Int) + 1) (hnx : lx.length = nx) (hjn : j ≤ n) (hcap : n ≤ cap) (w : World) (hP : BF P #[.int .i64 id, .int .i64 (nd : Int), .int .i64 tm, .int .i64 vt, .int .i64 ro, .bool up, .slice a n cap, .int .i64 (c : Int), .int .i64 el, .int .i64 wt, .slice av nv cv, .slice ax nx cx, .slice ag ng cg, .slice ao no co] w) (hM : MOwn w lo (.slice ao no co) L) (hlo : lo ≤ w.heap.size) (hOPo : (Value.slice ao no co).ownBlock ≠ some P) (hOPl : ∀ x ∈ L, (sl x).ownBlock ≠ some P) (hr : RowV w a (cE l)) (hrx : RowV w ax (cI lx)) :
    Calls Try.prog 60 #[.pointer (some ⟨P, 0, none⟩), .int .i64 (t : Int)] w fun e w' => ∃ g7 c7 p, e = .returned (.tuple #[]) ∧ BF P #[.int .i64 id, .int .i64 (nd : Int), .int .i64 tm, .int .i64 vt, .int .i64 ro, .bool up, .slice a n cap, .int .i64 (c : Int), .int .i64 el, .int .i64 wt, .slice av nv cv, .slice ax nx cx, .slice ag ng cg, .slice (some ⟨g7, 0, none⟩) (no + 1) c7] w' ∧ MOwn w' lo (.slice (some ⟨g7, 0, none⟩) (no + 1) c7) (L ++ [p]) ∧ p.1 = ⟨3, id, (t : Int), tm, (j : Int), tAt l j, (c : Int), false, l.drop j⟩ ∧ Two P (Value.slice ao no co).ownBlock w w' ∧ ((Value.slice ao no co).ownBlock = some g7 ∨ w.heap.size ≤ g7) ∧ ∀ x ∈ L ++ [p], (sl x).ownBlock ≠ some P := by
  obtain ⟨ie, hie, hie0, hie1, hie2⟩ := info_parts Try.infE68
  obtain ⟨b, off, rfl, hblt, hc⟩ := hrx.at (by rw [cI_len]; omega)
  obtain ⟨x, hx⟩ : ∃ x, x = lx[t] := ⟨_, rfl⟩
  have kx := hc t _ (cI_at lx t ht)
  rw [← hx] at kx
  have hw : IntKind.i64.wrap (x - 1) = (j : Int) := by rw [hx, hj, wrapi _ (by omega) (by omega)]; omega
  obtain ⟨TT, hTT⟩ : ∃ TT, TT = tAt l j := ⟨_, rfl⟩
  have HT := hide hTT
  have t1 : (t : Int) < (nx : Int) := by omega
  have t0 : (0 : Int) ≤ (t : Int) := by omega
  have j0 : (0 : Int) ≤ (j : Int) := by omega
  have j1 : (j : Int) ≤ (n : Int) := by omega
  have HR := hide hr
  have HP := hide hP
  have HM := hide hM
  have HLO := hide hlo
  have OPo := hide hOPo
  have OPl := hide hOPl
  have HNJ : Hid ((l.drop j).length = n - j) := by show _ = _; rw [List.length_drop, unhide HN]
  have ka := hP.S
  have Tu0 : Hid (Below w.heap.size w w.drew) := (Below.refl _ _).drew
  clear hr hrx hc hx hj ht hnx hTT hP hM hlo hOPo hOPl
  go_enter Try.func60, Try.ntmps60
  go_upto_region 1 with fail
  have ks : ∀ o, o ≠ 13 → w.cell? ⟨P, o, none⟩ = (#[.int .i64 id, .int .i64 (nd : Int), .int .i64 tm, .int .i64 vt, .int .i64 ro, .bool up, .slice a n cap, .int .i64 (c : Int), .int .i64 el, .int .i64 wt, .slice av nv cv, .slice (some ⟨b, off, none⟩) nx cx, .slice ag ng cg, .slice ao no co] : Array Value)[o]? := fun o _ => ka o
  clear ka kx hw
  by_cases hcj : cap = j
  · have RJ : Hid (∀ W, Below w.heap.size w W → RowV W a (cE (l.drop j))) := fun W hW => .inl (by rw [List.drop_eq_nil_of_le (by rw [unhide HN]; omega)]; rfl)
    subst hcj
    have HNJ : Hid ((l.drop cap).length = 0) := by show _ = _; rw [unhide HNJ]; omega
    refine wp_region_held_drew (S := fun w' => ∀ o, o ≠ 13 → w'.cell? ⟨P, o, none⟩ = (#[.int .i64 id, .int .i64 (nd : Int), .int .i64 tm, .int .i64 vt, .int .i64 ro, .bool up, .slice a n cap, .int .i64 (c : Int), .int .i64 el, .int .i64 wt, .slice av nv cv, .slice (some ⟨b, off, none⟩) nx cx, .slice ag ng cg, .slice ao no co] : Array Value)[o]?) (by kernel_rfl) ks (fun hHeld => ?_)
    generalize w.drew = u0 at Tu0 hHeld ⊢
    refine wtk (i := 0) (oi := oTeS0) (v := ?_) rfl (Or.inl ⟨by rfl, ?_⟩) (by assumption) ?_
    rotate_left 1
    · (intro w' hSw; (try dsimp only at hSw); go_simp; try with_reducible rfl)
    try simp only [Act.put, qqA, qqB, qqC]
    refine wtk (i := 1) (oi := oTeS1) (v := ?_) rfl (Or.inl ⟨by rfl, ?_⟩) (by assumption) ?_
    rotate_left 1
    · (intro w' hSw; (try dsimp only at hSw); go_simp; try with_reducible rfl)
    try simp only [Act.put, qqA, qqB, qqC]
    refine wtk (i := 2) (oi := oTeS2) (v := ?_) rfl (Or.inl ⟨by rfl, ?_⟩) (by assumption) ?_
    rotate_left 1
    · (intro w' hSw; (try dsimp only at hSw); go_simp; try with_reducible rfl)
    try simp only [Act.put, qqA, qqB, qqC]
    refine wtk (i := 3) (oi := oTeS3) (v := ?_) rfl (Or.inl ⟨by rfl, ?_⟩) (by assumption) ?_
    rotate_left 1
    · (intro w' hSw; (try dsimp only at hSw); go_simp; try with_reducible rfl)
    try simp only [Act.put, qqA, qqB, qqC]
    refine wtk (i := 4) (oi := oTeS4) (v := ?_) rfl (Or.inl ⟨by rfl, ?_⟩) (by assumption) ?_
    rotate_left 1
    · (intro w' hSw; (try dsimp only at hSw); go_simp; try with_reducible rfl)
    try simp only [Act.put, qqA, qqB, qqC]
    refine wtk (i := 5) (oi := oTeS5) (v := ?_) rfl (Or.inl ⟨by rfl, ?_⟩) (by assumption) ?_
    rotate_left 1
    · (intro w' hSw; (try dsimp only at hSw); go_simp; try with_reducible rfl)
    try simp only [Act.put, qqA, qqB, qqC]
    refine wtk (i := 6) (oi := oTeS6) (v := ?_) rfl (Or.inl ⟨by rfl, ?_⟩) (by assumption) ?_
    rotate_left 1
    · (intro w' hSw; (try dsimp only at hSw); go_simp; try with_reducible rfl)
    try simp only [Act.put, qqA, qqB, qqC]
    refine wtk (i := 7) (oi := oTeS7) (v := ?_) rfl (Or.inl ⟨by rfl, ?_⟩) (by assumption) ?_
    rotate_left 1
    · (intro w' hSw; (try dsimp only at hSw); go_simp; try with_reducible rfl)
    try simp only [Act.put, qqA, qqB, qqC]
    refine wtk (i := 9) (oi := oTeS8) (v := ?_) rfl (Or.inl ⟨by rfl, ?_⟩) (by assumption) ?_
    rotate_left 1
    · (intro w' hSw; (try dsimp only at hSw); go_simp; try with_reducible rfl)
    try simp only [Act.put, qqA, qqB, qqC]
    refine wtk (i := 10) (oi := oTeS9) (v := ?_) rfl (Or.inl ⟨by rfl, ?_⟩) (by assumption) ?_
    rotate_left 1
    · (intro w' hSw; (try dsimp only at hSw); go_simp; try with_reducible rfl)
    try simp only [Act.put, qqA, qqB, qqC]
    refine wtk (i := 11) (oi := oTeS10) (v := ?_) rfl (Or.inl ⟨by rfl, ?_⟩) (by assumption) ?_
    rotate_left 1
    · (intro w' hSw; (try dsimp only at hSw); go_simp; try with_reducible rfl)
    try simp only [Act.put, qqA, qqB, qqC]
    refine wtk (i := 12) (oi := oTeS11) (v := ?_) rfl (Or.inl ⟨by rfl, ?_⟩) (by assumption) ?_
    rotate_left 1
    · (intro w' hSw; (try dsimp only at hSw); go_simp; try with_reducible rfl)
    try simp only [Act.put, qqA, qqB, qqC]
    refine wtk (i := 13) (oi := oTeS12) (v := ?_) rfl (Or.inl ⟨by rfl, ?_⟩) (by assumption) ?_
    rotate_left 1
    · (intro w' hSw; (try dsimp only at hSw); go_simp; try with_reducible rfl)
    try simp only [Act.put, qqA, qqB, qqC]
    refine wtk (i := 15) (oi := oTeS13) (v := ?_) rfl (Or.inl ⟨by rfl, ?_⟩) (by assumption) ?_
    rotate_left 1
    · (intro w' hSw; (try dsimp only at hSw); go_simp; try with_reducible rfl)
    try simp only [Act.put, qqA, qqB, qqC]
    refine wtk (i := 16) (oi := oTeS14) (v := ?_) rfl (Or.inl ⟨by rfl, ?_⟩) (by assumption) ?_
    rotate_left 1
    · (intro w' hSw; (try dsimp only at hSw); go_simp; try with_reducible rfl)
    try simp only [Act.put, qqA, qqB, qqC]
    refine wtk (i := 17) (oi := oTeS15) (v := ?_) rfl (Or.inl ⟨by rfl, ?_⟩) (by assumption) ?_
    rotate_left 1
    · (intro w' hSw; (try dsimp only at hSw); go_simp; try with_reducible rfl)
    try simp only [Act.put, qqA, qqB, qqC]
    refine wtk (i := 18) (oi := oTeS16) (v := ?_) rfl (Or.inl ⟨by rfl, ?_⟩) (by assumption) ?_
    rotate_left 1
    · (intro w' hSw; (try dsimp only at hSw); go_simp; try with_reducible rfl)
    try simp only [Act.put, qqA, qqB, qqC]
    refine wtk (i := 19) (oi := oTeS17) (v := ?_) rfl (Or.inl ⟨by rfl, ?_⟩) (by assumption) ?_
    rotate_left 1
    · (intro w' hSw; (try dsimp only at hSw); go_simp; try with_reducible rfl)
    try simp only [Act.put, qqA, qqB, qqC]
    refine wtk (i := 20) (oi := oTeS18) (v := ?_) rfl (Or.inl ⟨by rfl, ?_⟩) (by assumption) ?_
    rotate_left 1
    · (intro w' hSw; (try dsimp only at hSw); go_simp; try with_reducible rfl)
    try simp only [Act.put, qqA, qqB, qqC]
    refine wtk (i := 21) (oi := oTeS19) (v := ?_) rfl (Or.inl ⟨by rfl, ?_⟩) (by assumption) ?_
    rotate_left 1
    · (intro w' hSw; (try dsimp only at hSw); go_simp; try with_reducible rfl)
    try simp only [Act.put, qqA, qqB, qqC]
    refine wpAnyH_ready (rs := [8, 14]) (by kernel_rfl) (by simp) ?_
    refine AllReadyH.cons (o := oTeS20) rfl (fun K hK => ?_) (AllReadyH.cons (o := oTeS21) rfl (fun K hK => ?_) AllReadyH.nil)
    · skip
      go_simp
      refine (stermat id (nd : Int) tm vt ro (c : Int) el wt up a cap n av cv nv (some ⟨b, off, none⟩) cx nx ag cg ng l HN hn cap hjn TT HT _ ((unhide HR).below (unhide Tu0))).mono ?_
      rintro e u1 ⟨rfl, hb⟩
      have Tu1 := hide ((unhide Tu0).trans (hb.mono (unhide Tu0).size))
      try have Ou1 := hide (((heldZ_of (unhide Ou0)).below hb (Nat.le_refl _)).own)
      have ku1 := ((unhide HP).below (unhide Tu1)).S
      clear hb
      go_wp2_with fail
      refine hK.out _ _ ?_ (fun hHeld8 => ?_)
      · exact fun o _ => ku1 o
      clear hK K
      try simp only [Act.put, qqA, qqB, qqC]
      clear ku1
      refine wpAnyH_ready (rs := [14]) (by kernel_rfl) (by simp) ?_
      refine AllReadyH.cons (o := oTeS21) rfl (fun K hK => ?_) AllReadyH.nil
      obtain ⟨G, hG⟩ : ∃ G, G = u1.heap.size := ⟨_, rfl⟩
      have GW : Hid (w.heap.size ≤ G) := by show _ ≤ _; rw [hG]; exact (unhide Tu1).size
      have Ou2 := hide (lit_emptyE u1 68 w.heap.size (unhide Tu1).size)
      have Tu2 := hide ((unhide Tu1).alloc (unhide Tu1).size (.cells #[] 68))
      rw [← hG] at Ou2
      have ku2 := ((unhide HP).below (unhide Tu2)).S
      go_simp
      refine hK.out _ _ ?_ (fun hHeld14 => ?_)
      · exact fun o _ => ku2 o
      clear hK K
      try simp only [Act.put, qqA, qqB, qqC]
      rw [← hG]
      clear hG ku2
      generalize u1.alloc (.cells #[] 68) = u2 at Ou2 Tu2 hHeld14 ⊢
      refine wpAnyH_ready (rs := [22]) (by kernel_rfl) (by simp) ?_
      refine AllReadyH.cons (o := oTeS22) rfl (fun K hK => ?_) AllReadyH.nil
      refine step_append_ents u2 rfl (.tmp 28) (.tmp 35) 27 rfl w.heap.size 68 ie Try.underlying27 hie hie0 hie1 hie2 _ rfl (unhide Ou2) a 0 0 (l.drop cap) (unhide HNJ) rfl (unhide RJ u2 (unhide Tu2)) (by omega) (unhide Tu2).size ?_
      intro v' u3 ho hg
      obtain ⟨ae, ce, rfl, -⟩ := ownZ_rowV ho
      have Tu3 := hide ((unhide Tu2).grown hg (unhide Tu2).size (fun q hq => by have e : G = q := Option.some.inj hq; have := unhide GW; omega))
      have Eu3 := hide ho
      have ku3 := ((unhide HP).below (unhide Tu3)).S
      clear ho hg
      refine hK.out _ _ ?_ (fun hHeld22 => ?_)
      · exact fun o _ => ku3 o
      clear hK K
      try simp only [Act.put, qqA, qqB, qqC]
      clear ku3
      refine wtk (i := 23) (oi := oTeS23) (v := ?_) rfl (Or.inl ⟨by rfl, ?_⟩) (by assumption) ?_
      rotate_left 1
      · (intro w' hSw; (try dsimp only at hSw); go_simp; try with_reducible rfl)
      try simp only [Act.put, qqA, qqB, qqC]
      refine wpAnyH_ready (rs := [24]) (by kernel_rfl) (by simp) ?_
      refine AllReadyH.cons (o := oTeS24) rfl (fun K hK => ?_) AllReadyH.nil
      go_simp
      refine (ssend P id nd tm vt ro c el wt up a cap n av cv nv (some ⟨b, off, none⟩) cx nx ag cg ng ao no co 3 0 (t : Int) 0 (cap : Int) TT (c : Int) false ae 0 ce (l.drop cap) HNJ (by omega) lo L HNO hno w _ ((unhide HP).below (unhide Tu3)) ((unhide HM).below (unhide Tu3)) (own_low (unhide Eu3) (unhide HLO)) (Nat.le_trans (unhide HLO) (unhide Tu3).size) (unhide Tu3).size (fun q hq => ((unhide Eu3).lt q hq).1) (fun q hq i hi => (((unhide HM).ent q hq).lt i hi).2) (fun i hi => ((unhide HM).row.lt i hi).2) (unhide HP).lt (unhide OPo) (unhide OPl)).mono ?_
      rintro e w9 ⟨g7, c7, p, rfl, hP9, hM9, hp9, hT9, hF9, hO9⟩
      have FIN : Hid (BF P #[.int .i64 id, .int .i64 (nd : Int), .int .i64 tm, .int .i64 vt, .int .i64 ro, .bool up, .slice a n cap, .int .i64 (c : Int), .int .i64 el, .int .i64 wt, .slice av nv cv, .slice (some ⟨b, off, none⟩) nx cx, .slice ag ng cg, .slice (some ⟨g7, 0, none⟩) (no + 1) c7] w9 ∧ MOwn w9 lo (.slice (some ⟨g7, 0, none⟩) (no + 1) c7) (L ++ [p]) ∧ p.1 = ⟨3, id, (t : Int), tm, (cap : Int), tAt l cap, (c : Int), false, l.drop cap⟩ ∧ Two P (Value.slice ao no co).ownBlock w w9 ∧ ((Value.slice ao no co).ownBlock = some g7 ∨ w.heap.size ≤ g7) ∧ ∀ x ∈ L ++ [p], (sl x).ownBlock ≠ some P) :=
        ⟨hP9, hM9, by rw [hp9, unhide HT], Two.trans (Two.of_below (unhide Tu3)) hT9 (fun q _ e => e), hF9.elim .inl (fun h => .inr (Nat.le_trans (unhide Tu3).size h)), hO9⟩
      have k9 := hP9.S
      clear hP9 hM9 hp9 hT9 hF9 hO9
      go_wp2_with fail
      refine hK.out _ _ ?_ (fun hHeld24 => ?_)
      · intro o ho
        rw [k9 o]
        exact arr13 _ _ _ _ _ _ _ _ _ _ _ _ _ _ _ o ho
      clear hK K
      try simp only [Act.put, qqA, qqB, qqC]
      refine wpAnyH_done (by kernel_rfl) ?_ _
      clear k9
      go_wp2_with fail
      go_end0
      obtain ⟨h1, h2, h3, h4, h5, h6⟩ := unhide FIN
      exact ⟨g7, c7, p, rfl, h1, h2, h3, h4, h5, h6⟩
    · skip
      obtain ⟨G, hG⟩ : ∃ G, G = u0.heap.size := ⟨_, rfl⟩
      have GW : Hid (w.heap.size ≤ G) := by show _ ≤ _; rw [hG]; exact (unhide Tu0).size
      have Ou4 := hide (lit_emptyE u0 68 w.heap.size (unhide Tu0).size)
      have Tu4 := hide ((unhide Tu0).alloc (unhide Tu0).size (.cells #[] 68))
      rw [← hG] at Ou4
      have ku4 := ((unhide HP).below (unhide Tu4)).S
      go_simp
      refine hK.out _ _ ?_ (fun hHeld14 => ?_)
      · exact fun o _ => ku4 o
      clear hK K
      try simp only [Act.put, qqA, qqB, qqC]
      rw [← hG]
      clear hG ku4
      generalize u0.alloc (.cells #[] 68) = u4 at Ou4 Tu4 hHeld14 ⊢
      refine wpAnyH_ready (rs := [8]) (by kernel_rfl) (by simp) ?_
      refine AllReadyH.cons (o := oTeS20) rfl (fun K hK => ?_) AllReadyH.nil
      go_simp
      refine (stermat id (nd : Int) tm vt ro (c : Int) el wt up a cap n av cv nv (some ⟨b, off, none⟩) cx nx ag cg ng l HN hn cap hjn TT HT _ ((unhide HR).below (unhide Tu4))).mono ?_
      rintro e u5 ⟨rfl, hb⟩
      have Tu5 := hide ((unhide Tu4).trans (hb.mono (unhide Tu4).size))
      try have Ou5 := hide (((heldZ_of (unhide Ou4)).below hb (Nat.le_refl _)).own)
      have ku5 := ((unhide HP).below (unhide Tu5)).S
      clear hb
      go_wp2_with fail
      refine hK.out _ _ ?_ (fun hHeld8 => ?_)
      · exact fun o _ => ku5 o
      clear hK K
      try simp only [Act.put, qqA, qqB, qqC]
      clear ku5
      refine wpAnyH_ready (rs := [22]) (by kernel_rfl) (by simp) ?_
      refine AllReadyH.cons (o := oTeS22) rfl (fun K hK => ?_) AllReadyH.nil
      refine step_append_ents u5 rfl (.tmp 28) (.tmp 35) 27 rfl w.heap.size 68 ie Try.underlying27 hie hie0 hie1 hie2 _ rfl (unhide Ou5) a 0 0 (l.drop cap) (unhide HNJ) rfl (unhide RJ u5 (unhide Tu5)) (by omega) (unhide Tu5).size ?_
      intro v' u6 ho hg
      obtain ⟨ae, ce, rfl, -⟩ := ownZ_rowV ho
      have Tu6 := hide ((unhide Tu5).grown hg (unhide Tu5).size (fun q hq => by have e : G = q := Option.some.inj hq; have := unhide GW; omega))
      have Eu6 := hide ho
      have ku6 := ((unhide HP).below (unhide Tu6)).S
      clear ho hg
      refine hK.out _ _ ?_ (fun hHeld22 => ?_)
      · exact fun o _ => ku6 o
      clear hK K
      try simp only [Act.put, qqA, qqB, qqC]
      clear ku6
      refine wtk (i := 23) (oi := oTeS23) (v := ?_) rfl (Or.inl ⟨by rfl, ?_⟩) (by assumption) ?_
      rotate_left 1
      · (intro w' hSw; (try dsimp only at hSw); go_simp; try with_reducible rfl)
      try simp only [Act.put, qqA, qqB, qqC]
      refine wpAnyH_ready (rs := [24]) (by kernel_rfl) (by simp) ?_
      refine AllReadyH.cons (o := oTeS24) rfl (fun K hK => ?_) AllReadyH.nil
      go_simp
      refine (ssend P id nd tm vt ro c el wt up a cap n av cv nv (some ⟨b, off, none⟩) cx nx ag cg ng ao no co 3 0 (t : Int) 0 (cap : Int) TT (c : Int) false ae 0 ce (l.drop cap) HNJ (by omega) lo L HNO hno w _ ((unhide HP).below (unhide Tu6)) ((unhide HM).below (unhide Tu6)) (own_low (unhide Eu6) (unhide HLO)) (Nat.le_trans (unhide HLO) (unhide Tu6).size) (unhide Tu6).size (fun q hq => ((unhide Eu6).lt q hq).1) (fun q hq i hi => (((unhide HM).ent q hq).lt i hi).2) (fun i hi => ((unhide HM).row.lt i hi).2) (unhide HP).lt (unhide OPo) (unhide OPl)).mono ?_
      rintro e w9 ⟨g7, c7, p, rfl, hP9, hM9, hp9, hT9, hF9, hO9⟩
      have FIN : Hid (BF P #[.int .i64 id, .int .i64 (nd : Int), .int .i64 tm, .int .i64 vt, .int .i64 ro, .bool up, .slice a n cap, .int .i64 (c : Int), .int .i64 el, .int .i64 wt, .slice av nv cv, .slice (some ⟨b, off, none⟩) nx cx, .slice ag ng cg, .slice (some ⟨g7, 0, none⟩) (no + 1) c7] w9 ∧ MOwn w9 lo (.slice (some ⟨g7, 0, none⟩) (no + 1) c7) (L ++ [p]) ∧ p.1 = ⟨3, id, (t : Int), tm, (cap : Int), tAt l cap, (c : Int), false, l.drop cap⟩ ∧ Two P (Value.slice ao no co).ownBlock w w9 ∧ ((Value.slice ao no co).ownBlock = some g7 ∨ w.heap.size ≤ g7) ∧ ∀ x ∈ L ++ [p], (sl x).ownBlock ≠ some P) :=
        ⟨hP9, hM9, by rw [hp9, unhide HT], Two.trans (Two.of_below (unhide Tu6)) hT9 (fun q _ e => e), hF9.elim .inl (fun h => .inr (Nat.le_trans (unhide Tu6).size h)), hO9⟩
      have k9 := hP9.S
      clear hP9 hM9 hp9 hT9 hF9 hO9
      go_wp2_with fail
      refine hK.out _ _ ?_ (fun hHeld24 => ?_)
      · intro o ho
        rw [k9 o]
        exact arr13 _ _ _ _ _ _ _ _ _ _ _ _ _ _ _ o ho
      clear hK K
      try simp only [Act.put, qqA, qqB, qqC]
      refine wpAnyH_done (by kernel_rfl) ?_ _
      clear k9
      go_wp2_with fail
      go_end0
      obtain ⟨h1, h2, h3, h4, h5, h6⟩ := unhide FIN
      exact ⟨g7, c7, p, rfl, h1, h2, h3, h4, h5, h6⟩
  · have RJ : Hid (∀ W, Below w.heap.size w W → RowV W (Option.map (fun x => x.add (j * 2)) a) (cE (l.drop j))) := fun W hW => rowV_dropE ((unhide HR).below hW) j
    refine wp_region_held_drew (S := fun w' => ∀ o, o ≠ 13 → w'.cell? ⟨P, o, none⟩ = (#[.int .i64 id, .int .i64 (nd : Int), .int .i64 tm, .int .i64 vt, .int .i64 ro, .bool up, .slice a n cap, .int .i64 (c : Int), .int .i64 el, .int .i64 wt, .slice av nv cv, .slice (some ⟨b, off, none⟩) nx cx, .slice ag ng cg, .slice ao no co] : Array Value)[o]?) (by kernel_rfl) ks (fun hHeld => ?_)
    generalize w.drew = u0 at Tu0 hHeld ⊢
    refine wtk (i := 0) (oi := oTeS0) (v := ?_) rfl (Or.inl ⟨by rfl, ?_⟩) (by assumption) ?_
    rotate_left 1
    · (intro w' hSw; (try dsimp only at hSw); go_simp; try with_reducible rfl)
    try simp only [Act.put, qqA, qqB, qqC]
    refine wtk (i := 1) (oi := oTeS1) (v := ?_) rfl (Or.inl ⟨by rfl, ?_⟩) (by assumption) ?_
    rotate_left 1
    · (intro w' hSw; (try dsimp only at hSw); go_simp; try with_reducible rfl)
    try simp only [Act.put, qqA, qqB, qqC]
    refine wtk (i := 2) (oi := oTeS2) (v := ?_) rfl (Or.inl ⟨by rfl, ?_⟩) (by assumption) ?_
    rotate_left 1
    · (intro w' hSw; (try dsimp only at hSw); go_simp; try with_reducible rfl)
    try simp only [Act.put, qqA, qqB, qqC]
    refine wtk (i := 3) (oi := oTeS3) (v := ?_) rfl (Or.inl ⟨by rfl, ?_⟩) (by assumption) ?_
    rotate_left 1
    · (intro w' hSw; (try dsimp only at hSw); go_simp; try with_reducible rfl)
    try simp only [Act.put, qqA, qqB, qqC]
    refine wtk (i := 4) (oi := oTeS4) (v := ?_) rfl (Or.inl ⟨by rfl, ?_⟩) (by assumption) ?_
    rotate_left 1
    · (intro w' hSw; (try dsimp only at hSw); go_simp; try with_reducible rfl)
    try simp only [Act.put, qqA, qqB, qqC]
    refine wtk (i := 5) (oi := oTeS5) (v := ?_) rfl (Or.inl ⟨by rfl, ?_⟩) (by assumption) ?_
    rotate_left 1
    · (intro w' hSw; (try dsimp only at hSw); go_simp; try with_reducible rfl)
    try simp only [Act.put, qqA, qqB, qqC]
    refine wtk (i := 6) (oi := oTeS6) (v := ?_) rfl (Or.inl ⟨by rfl, ?_⟩) (by assumption) ?_
    rotate_left 1
    · (intro w' hSw; (try dsimp only at hSw); go_simp; try with_reducible rfl)
    try simp only [Act.put, qqA, qqB, qqC]
    refine wtk (i := 7) (oi := oTeS7) (v := ?_) rfl (Or.inl ⟨by rfl, ?_⟩) (by assumption) ?_
    rotate_left 1
    · (intro w' hSw; (try dsimp only at hSw); go_simp; try with_reducible rfl)
    try simp only [Act.put, qqA, qqB, qqC]
    refine wtk (i := 9) (oi := oTeS8) (v := ?_) rfl (Or.inl ⟨by rfl, ?_⟩) (by assumption) ?_
    rotate_left 1
    · (intro w' hSw; (try dsimp only at hSw); go_simp; try with_reducible rfl)
    try simp only [Act.put, qqA, qqB, qqC]
    refine wtk (i := 10) (oi := oTeS9) (v := ?_) rfl (Or.inl ⟨by rfl, ?_⟩) (by assumption) ?_
    rotate_left 1
    · (intro w' hSw; (try dsimp only at hSw); go_simp; try with_reducible rfl)
    try simp only [Act.put, qqA, qqB, qqC]
    refine wtk (i := 11) (oi := oTeS10) (v := ?_) rfl (Or.inl ⟨by rfl, ?_⟩) (by assumption) ?_
    rotate_left 1
    · (intro w' hSw; (try dsimp only at hSw); go_simp; try with_reducible rfl)
    try simp only [Act.put, qqA, qqB, qqC]
    refine wtk (i := 12) (oi := oTeS11) (v := ?_) rfl (Or.inl ⟨by rfl, ?_⟩) (by assumption) ?_
    rotate_left 1
    · (intro w' hSw; (try dsimp only at hSw); go_simp; try with_reducible rfl)
    try simp only [Act.put, qqA, qqB, qqC]
    refine wtk (i := 13) (oi := oTeS12) (v := ?_) rfl (Or.inl ⟨by rfl, ?_⟩) (by assumption) ?_
    rotate_left 1
    · (intro w' hSw; (try dsimp only at hSw); go_simp; try with_reducible rfl)
    try simp only [Act.put, qqA, qqB, qqC]
    refine wtk (i := 15) (oi := oTeS13) (v := ?_) rfl (Or.inl ⟨by rfl, ?_⟩) (by assumption) ?_
    rotate_left 1
    · (intro w' hSw; (try dsimp only at hSw); go_simp; try with_reducible rfl)
    try simp only [Act.put, qqA, qqB, qqC]
    refine wtk (i := 16) (oi := oTeS14) (v := ?_) rfl (Or.inl ⟨by rfl, ?_⟩) (by assumption) ?_
    rotate_left 1
    · (intro w' hSw; (try dsimp only at hSw); go_simp; try with_reducible rfl)
    try simp only [Act.put, qqA, qqB, qqC]
    refine wtk (i := 17) (oi := oTeS15) (v := ?_) rfl (Or.inl ⟨by rfl, ?_⟩) (by assumption) ?_
    rotate_left 1
    · (intro w' hSw; (try dsimp only at hSw); go_simp; try with_reducible rfl)
    try simp only [Act.put, qqA, qqB, qqC]
    refine wtk (i := 18) (oi := oTeS16) (v := ?_) rfl (Or.inl ⟨by rfl, ?_⟩) (by assumption) ?_
    rotate_left 1
    · (intro w' hSw; (try dsimp only at hSw); go_simp; try with_reducible rfl)
    try simp only [Act.put, qqA, qqB, qqC]
    refine wtk (i := 19) (oi := oTeS17) (v := ?_) rfl (Or.inl ⟨by rfl, ?_⟩) (by assumption) ?_
    rotate_left 1
    · (intro w' hSw; (try dsimp only at hSw); go_simp; try with_reducible rfl)
    try simp only [Act.put, qqA, qqB, qqC]
    refine wtk (i := 20) (oi := oTeS18) (v := ?_) rfl (Or.inl ⟨by rfl, ?_⟩) (by assumption) ?_
    rotate_left 1
    · (intro w' hSw; (try dsimp only at hSw); go_simp; try with_reducible rfl)
    try simp only [Act.put, qqA, qqB, qqC]
    refine wtk (i := 21) (oi := oTeS19) (v := ?_) rfl (Or.inl ⟨by rfl, ?_⟩) (by assumption) ?_
    rotate_left 1
    · (intro w' hSw; (try dsimp only at hSw); go_simp; try with_reducible rfl)
    try simp only [Act.put, qqA, qqB, qqC]
    refine wpAnyH_ready (rs := [8, 14]) (by kernel_rfl) (by simp) ?_
    refine AllReadyH.cons (o := oTeS20) rfl (fun K hK => ?_) (AllReadyH.cons (o := oTeS21) rfl (fun K hK => ?_) AllReadyH.nil)
    · skip
      go_simp
      refine (stermat id (nd : Int) tm vt ro (c : Int) el wt up a cap n av cv nv (some ⟨b, off, none⟩) cx nx ag cg ng l HN hn j hjn TT HT _ ((unhide HR).below (unhide Tu0))).mono ?_
      rintro e u7 ⟨rfl, hb⟩
      have Tu7 := hide ((unhide Tu0).trans (hb.mono (unhide Tu0).size))
      try have Ou7 := hide (((heldZ_of (unhide Ou0)).below hb (Nat.le_refl _)).own)
      have ku7 := ((unhide HP).below (unhide Tu7)).S
      clear hb
      go_wp2_with fail
      refine hK.out _ _ ?_ (fun hHeld8 => ?_)
      · exact fun o _ => ku7 o
      clear hK K
      try simp only [Act.put, qqA, qqB, qqC]
      clear ku7
      refine wpAnyH_ready (rs := [14]) (by kernel_rfl) (by simp) ?_
      refine AllReadyH.cons (o := oTeS21) rfl (fun K hK => ?_) AllReadyH.nil
      obtain ⟨G, hG⟩ : ∃ G, G = u7.heap.size := ⟨_, rfl⟩
      have GW : Hid (w.heap.size ≤ G) := by show _ ≤ _; rw [hG]; exact (unhide Tu7).size
      have Ou8 := hide (lit_emptyE u7 68 w.heap.size (unhide Tu7).size)
      have Tu8 := hide ((unhide Tu7).alloc (unhide Tu7).size (.cells #[] 68))
      rw [← hG] at Ou8
      have ku8 := ((unhide HP).below (unhide Tu8)).S
      go_simp
      refine hK.out _ _ ?_ (fun hHeld14 => ?_)
      · exact fun o _ => ku8 o
      clear hK K
      try simp only [Act.put, qqA, qqB, qqC]
      rw [← hG]
      clear hG ku8
      generalize u7.alloc (.cells #[] 68) = u8 at Ou8 Tu8 hHeld14 ⊢
      refine wpAnyH_ready (rs := [22]) (by kernel_rfl) (by simp) ?_
      refine AllReadyH.cons (o := oTeS22) rfl (fun K hK => ?_) AllReadyH.nil
      refine step_append_ents u8 rfl (.tmp 28) (.tmp 35) 27 rfl w.heap.size 68 ie Try.underlying27 hie hie0 hie1 hie2 _ rfl (unhide Ou8) (Option.map (fun x => x.add (j * 2)) a) (cap - j) (n - j) (l.drop j) (unhide HNJ) rfl (unhide RJ u8 (unhide Tu8)) (by omega) (unhide Tu8).size ?_
      intro v' u9 ho hg
      obtain ⟨ae, ce, rfl, -⟩ := ownZ_rowV ho
      have Tu9 := hide ((unhide Tu8).grown hg (unhide Tu8).size (fun q hq => by have e : G = q := Option.some.inj hq; have := unhide GW; omega))
      have Eu9 := hide ho
      have ku9 := ((unhide HP).below (unhide Tu9)).S
      clear ho hg
      refine hK.out _ _ ?_ (fun hHeld22 => ?_)
      · exact fun o _ => ku9 o
      clear hK K
      try simp only [Act.put, qqA, qqB, qqC]
      clear ku9
      refine wtk (i := 23) (oi := oTeS23) (v := ?_) rfl (Or.inl ⟨by rfl, ?_⟩) (by assumption) ?_
      rotate_left 1
      · (intro w' hSw; (try dsimp only at hSw); go_simp; try with_reducible rfl)
      try simp only [Act.put, qqA, qqB, qqC]
      refine wpAnyH_ready (rs := [24]) (by kernel_rfl) (by simp) ?_
      refine AllReadyH.cons (o := oTeS24) rfl (fun K hK => ?_) AllReadyH.nil
      go_simp
      refine (ssend P id nd tm vt ro c el wt up a cap n av cv nv (some ⟨b, off, none⟩) cx nx ag cg ng ao no co 3 0 (t : Int) 0 (j : Int) TT (c : Int) false ae (n - j) ce (l.drop j) HNJ (by omega) lo L HNO hno w _ ((unhide HP).below (unhide Tu9)) ((unhide HM).below (unhide Tu9)) (own_low (unhide Eu9) (unhide HLO)) (Nat.le_trans (unhide HLO) (unhide Tu9).size) (unhide Tu9).size (fun q hq => ((unhide Eu9).lt q hq).1) (fun q hq i hi => (((unhide HM).ent q hq).lt i hi).2) (fun i hi => ((unhide HM).row.lt i hi).2) (unhide HP).lt (unhide OPo) (unhide OPl)).mono ?_
      rintro e w9 ⟨g7, c7, p, rfl, hP9, hM9, hp9, hT9, hF9, hO9⟩
      have FIN : Hid (BF P #[.int .i64 id, .int .i64 (nd : Int), .int .i64 tm, .int .i64 vt, .int .i64 ro, .bool up, .slice a n cap, .int .i64 (c : Int), .int .i64 el, .int .i64 wt, .slice av nv cv, .slice (some ⟨b, off, none⟩) nx cx, .slice ag ng cg, .slice (some ⟨g7, 0, none⟩) (no + 1) c7] w9 ∧ MOwn w9 lo (.slice (some ⟨g7, 0, none⟩) (no + 1) c7) (L ++ [p]) ∧ p.1 = ⟨3, id, (t : Int), tm, (j : Int), tAt l j, (c : Int), false, l.drop j⟩ ∧ Two P (Value.slice ao no co).ownBlock w w9 ∧ ((Value.slice ao no co).ownBlock = some g7 ∨ w.heap.size ≤ g7) ∧ ∀ x ∈ L ++ [p], (sl x).ownBlock ≠ some P) :=
        ⟨hP9, hM9, by rw [hp9, unhide HT], Two.trans (Two.of_below (unhide Tu9)) hT9 (fun q _ e => e), hF9.elim .inl (fun h => .inr (Nat.le_trans (unhide Tu9).size h)), hO9⟩
      have k9 := hP9.S
      clear hP9 hM9 hp9 hT9 hF9 hO9
      go_wp2_with fail
      refine hK.out _ _ ?_ (fun hHeld24 => ?_)
      · intro o ho
        rw [k9 o]
        exact arr13 _ _ _ _ _ _ _ _ _ _ _ _ _ _ _ o ho
      clear hK K
      try simp only [Act.put, qqA, qqB, qqC]
      refine wpAnyH_done (by kernel_rfl) ?_ _
      clear k9
      go_wp2_with fail
      go_end0
      obtain ⟨h1, h2, h3, h4, h5, h6⟩ := unhide FIN
      exact ⟨g7, c7, p, rfl, h1, h2, h3, h4, h5, h6⟩
    · skip
      obtain ⟨G, hG⟩ : ∃ G, G = u0.heap.size := ⟨_, rfl⟩
      have GW : Hid (w.heap.size ≤ G) := by show _ ≤ _; rw [hG]; exact (unhide Tu0).size
      have Ou10 := hide (lit_emptyE u0 68 w.heap.size (unhide Tu0).size)
      have Tu10 := hide ((unhide Tu0).alloc (unhide Tu0).size (.cells #[] 68))
      rw [← hG] at Ou10
      have ku10 := ((unhide HP).below (unhide Tu10)).S
      go_simp
      refine hK.out _ _ ?_ (fun hHeld14 => ?_)
      · exact fun o _ => ku10 o
      clear hK K
      try simp only [Act.put, qqA, qqB, qqC]
      rw [← hG]
      clear hG ku10
      generalize u0.alloc (.cells #[] 68) = u10 at Ou10 Tu10 hHeld14 ⊢
      refine wpAnyH_ready (rs := [8]) (by kernel_rfl) (by simp) ?_
      refine AllReadyH.cons (o := oTeS20) rfl (fun K hK => ?_) AllReadyH.nil
      go_simp
      refine (stermat id (nd : Int) tm vt ro (c : Int) el wt up a cap n av cv nv (some ⟨b, off, none⟩) cx nx ag cg ng l HN hn j hjn TT HT _ ((unhide HR).below (unhide Tu10))).mono ?_
      rintro e u11 ⟨rfl, hb⟩
      have Tu11 := hide ((unhide Tu10).trans (hb.mono (unhide Tu10).size))
      try have Ou11 := hide (((heldZ_of (unhide Ou10)).below hb (Nat.le_refl _)).own)
      have ku11 := ((unhide HP).below (unhide Tu11)).S
      clear hb
      go_wp2_with fail
      refine hK.out _ _ ?_ (fun hHeld8 => ?_)
      · exact fun o _ => ku11 o
      clear hK K
      try simp only [Act.put, qqA, qqB, qqC]
      clear ku11
      refine wpAnyH_ready (rs := [22]) (by kernel_rfl) (by simp) ?_
      refine AllReadyH.cons (o := oTeS22) rfl (fun K hK => ?_) AllReadyH.nil
      refine step_append_ents u11 rfl (.tmp 28) (.tmp 35) 27 rfl w.heap.size 68 ie Try.underlying27 hie hie0 hie1 hie2 _ rfl (unhide Ou11) (Option.map (fun x => x.add (j * 2)) a) (cap - j) (n - j) (l.drop j) (unhide HNJ) rfl (unhide RJ u11 (unhide Tu11)) (by omega) (unhide Tu11).size ?_
      intro v' u12 ho hg
      obtain ⟨ae, ce, rfl, -⟩ := ownZ_rowV ho
      have Tu12 := hide ((unhide Tu11).grown hg (unhide Tu11).size (fun q hq => by have e : G = q := Option.some.inj hq; have := unhide GW; omega))
      have Eu12 := hide ho
      have ku12 := ((unhide HP).below (unhide Tu12)).S
      clear ho hg
      refine hK.out _ _ ?_ (fun hHeld22 => ?_)
      · exact fun o _ => ku12 o
      clear hK K
      try simp only [Act.put, qqA, qqB, qqC]
      clear ku12
      refine wtk (i := 23) (oi := oTeS23) (v := ?_) rfl (Or.inl ⟨by rfl, ?_⟩) (by assumption) ?_
      rotate_left 1
      · (intro w' hSw; (try dsimp only at hSw); go_simp; try with_reducible rfl)
      try simp only [Act.put, qqA, qqB, qqC]
      refine wpAnyH_ready (rs := [24]) (by kernel_rfl) (by simp) ?_
      refine AllReadyH.cons (o := oTeS24) rfl (fun K hK => ?_) AllReadyH.nil
      go_simp
      refine (ssend P id nd tm vt ro c el wt up a cap n av cv nv (some ⟨b, off, none⟩) cx nx ag cg ng ao no co 3 0 (t : Int) 0 (j : Int) TT (c : Int) false ae (n - j) ce (l.drop j) HNJ (by omega) lo L HNO hno w _ ((unhide HP).below (unhide Tu12)) ((unhide HM).below (unhide Tu12)) (own_low (unhide Eu12) (unhide HLO)) (Nat.le_trans (unhide HLO) (unhide Tu12).size) (unhide Tu12).size (fun q hq => ((unhide Eu12).lt q hq).1) (fun q hq i hi => (((unhide HM).ent q hq).lt i hi).2) (fun i hi => ((unhide HM).row.lt i hi).2) (unhide HP).lt (unhide OPo) (unhide OPl)).mono ?_
      rintro e w9 ⟨g7, c7, p, rfl, hP9, hM9, hp9, hT9, hF9, hO9⟩
      have FIN : Hid (BF P #[.int .i64 id, .int .i64 (nd : Int), .int .i64 tm, .int .i64 vt, .int .i64 ro, .bool up, .slice a n cap, .int .i64 (c : Int), .int .i64 el, .int .i64 wt, .slice av nv cv, .slice (some ⟨b, off, none⟩) nx cx, .slice ag ng cg, .slice (some ⟨g7, 0, none⟩) (no + 1) c7] w9 ∧ MOwn w9 lo (.slice (some ⟨g7, 0, none⟩) (no + 1) c7) (L ++ [p]) ∧ p.1 = ⟨3, id, (t : Int), tm, (j : Int), tAt l j, (c : Int), false, l.drop j⟩ ∧ Two P (Value.slice ao no co).ownBlock w w9 ∧ ((Value.slice ao no co).ownBlock = some g7 ∨ w.heap.size ≤ g7) ∧ ∀ x ∈ L ++ [p], (sl x).ownBlock ≠ some P) :=
        ⟨hP9, hM9, by rw [hp9, unhide HT], Two.trans (Two.of_below (unhide Tu12)) hT9 (fun q _ e => e), hF9.elim .inl (fun h => .inr (Nat.le_trans (unhide Tu12).size h)), hO9⟩
      have k9 := hP9.S
      clear hP9 hM9 hp9 hT9 hF9 hO9
      go_wp2_with fail
      refine hK.out _ _ ?_ (fun hHeld24 => ?_)
      · intro o ho
        rw [k9 o]
        exact arr13 _ _ _ _ _ _ _ _ _ _ _ _ _ _ _ o ho
      clear hK K
      try simp only [Act.put, qqA, qqB, qqC]
      refine wpAnyH_done (by kernel_rfl) ?_ _
      clear k9
      go_wp2_with fail
      go_end0
      obtain ⟨h1, h2, h3, h4, h5, h6⟩ := unhide FIN
      exact ⟨g7, c7, p, rfl, h1, h2, h3, h4, h5, h6⟩
end Go.Proofs.Ytjlajpnhcphngaa
