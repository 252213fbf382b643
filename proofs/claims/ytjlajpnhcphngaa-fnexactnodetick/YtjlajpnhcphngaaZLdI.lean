/- A node begins to lead: what the program answers. -/
import Derived.Test.YtjlajpnhcphngaaZAkI
import Derived.Test.YtjlajpnhcphngaaZG30
import Derived.Test.YtjlajpnhcphngaaZNnI
import Derived.Test.YtjlajpnhcphngaaZAdI
namespace Go.Proofs.Ytjlajpnhcphngaa
open Go.ChangeShapes Go.WideShapes Go.ChangeAt Go.RowKit
set_option linter.unusedVariables false
abbrev oLdI0 : Oper := { dst := some 25, op := .load 27 (.tmp 24), type := 27, pos := "l08_raft.go:220", after := #[{ on := 3, ground := .data }], guard := none }
abbrev oLdI1 : Oper := { dst := some 31, op := .buildSlice 27 1 #[(0, .tmp 30)], type := 27, pos := "l08_raft.go:220", after := #[{ on := 9, ground := .data }], guard := none }
abbrev oLdI2 : Oper := { dst := some 32, op := .call { callee := .builtin Go.Builtin.append, args := #[.tmp 25, .tmp 31], argTypes := #[27, 27] }, type := 27, pos := "l08_raft.go:220", after := #[{ on := 4, ground := .data }, { on := 10, ground := .data }], guard := none }
abbrev oLdI3 : Oper := { dst := some 33, op := .nilCheck (.tmp 21), type := 0, pos := "l08_raft.go:220", after := #[{ on := 0, ground := .data }, { on := 0, ground := .phase }, { on := 1, ground := .phase }, { on := 2, ground := .phase }, { on := 3, ground := .phase }, { on := 4, ground := .phase }, { on := 5, ground := .phase }, { on := 6, ground := .phase }, { on := 7, ground := .phase }, { on := 8, ground := .phase }, { on := 9, ground := .phase }, { on := 10, ground := .phase }, { on := 11, ground := .phase }], guard := none }
abbrev oLdI4 : Oper := { dst := some 34, op := .fieldAddr 29 (.tmp 33) 6, type := 0, pos := "l08_raft.go:220", after := #[{ on := 12, ground := .data }, { on := 0, ground := .phase }, { on := 1, ground := .phase }, { on := 2, ground := .phase }, { on := 3, ground := .phase }, { on := 4, ground := .phase }, { on := 5, ground := .phase }, { on := 6, ground := .phase }, { on := 7, ground := .phase }, { on := 8, ground := .phase }, { on := 9, ground := .phase }, { on := 10, ground := .phase }, { on := 11, ground := .phase }], guard := none }
abbrev oLdI5 : Oper := { dst := none, op := .store 27 (.tmp 34) (.tmp 32), type := 0, pos := "l08_raft.go:220", after := #[{ on := 13, ground := .data }, { on := 11, ground := .data }, { on := 11, ground := .chain }, { on := 0, ground := .phase }, { on := 1, ground := .phase }, { on := 2, ground := .phase }, { on := 3, ground := .phase }, { on := 4, ground := .phase }, { on := 5, ground := .phase }, { on := 6, ground := .phase }, { on := 7, ground := .phase }, { on := 8, ground := .phase }, { on := 9, ground := .phase }, { on := 10, ground := .phase }, { on := 11, ground := .phase }], guard := none }
theorem arr6 (x0 x1 x2 x3 x4 x5 x7 x8 x9 xa xb xc y z : Value) (o : Nat) (ho : o ≠ 6) : (#[x0, x1, x2, x3, x4, x5, y, x7, x8, x9, xa, xb, xc] : Array Value)[o]? = (#[x0, x1, x2, x3, x4, x5, z, x7, x8, x9, xa, xb, xc] : Array Value)[o]? := by
  rcases Nat.lt_or_ge o 13 with h | h
  · have hh : o = 0 ∨ o = 1 ∨ o = 2 ∨ o = 3 ∨ o = 4 ∨ o = 5 ∨ o = 7 ∨ o = 8 ∨ o = 9 ∨ o = 10 ∨ o = 11 ∨ o = 12 := by omega
    rcases hh with rfl | rfl | rfl | rfl | rfl | rfl | rfl | rfl | rfl | rfl | rfl | rfl <;> rfl
  · rw [Array.getElem?_eq_none (by simpa using h), Array.getElem?_eq_none (by simpa using h)]
theorem own_outs1 {w w' : World} {base : Nat} {e : TypeId} {z : Nat} {v : Value} {n : Nat} {xs : List Value} {p : Nat} (h : w.ownsRow base e z v n xs) (ho : Outs p (p + 1) w w') (hne : v.ownBlock ≠ some p) : w'.ownsRow base e z v n xs := by
  have hlt := h.lt
  obtain ⟨h1, h2⟩ := h
  refine ⟨h1, ?_⟩
  rcases h2 with h2 | ⟨g, cap, cur, rfl, hbg, hgc, hrest⟩
  · exact .inl h2
  · refine .inr ⟨g, cap, cur, rfl, hbg, (ho.block g (hlt g rfl).2 ?_).trans hgc, hrest⟩
    have : g ≠ p := fun e => hne (by rw [e]; rfl)
    omega
theorem Two.of_outs {P : Nat} {row : Option Nat} {w w' : World} (h : Outs P (P + 1) w w') : Two P row w w' := ⟨h.os, h.tape, h.output, h.size, fun k hk h1 _ => h.block k hk (by omega)⟩
set_option maxHeartbeats 4000000 in
set_option maxRecDepth 100000 in
theorem ilead (P lo : Nat) (id : Int) (nd : Nat) (tm vt ro : Int) (c : Nat) (el wt : Int) (up : Bool) (a : Option Addr) (cap n : Nat) (av : Option Addr) (cv nv : Nat) (ax : Option Addr) (cx nx : Nat) (ag : Option Addr) (cg ng : Nat) (l : List Ent) (HN : Hid (l.length = n)) (hn : n ≤ 60) (hnc : n ≤ cap) (hnd : nd ≤ 5) (hnd1 : 1 ≤ nd) (hcn : c ≤ n) (w : World) (hP : BF P #[.int .i64 id, .int .i64 (nd : Int), .int .i64 tm, .int .i64 vt, .int .i64 ro, .bool up, .slice a n cap, .int .i64 (c : Int), .int .i64 el, .int .i64 wt, .slice av nv cv, .slice ax nx cx, .slice ag ng cg] w) (hlo : lo ≤ P) (hE : w.ownsRow lo 68 2 (.slice a n cap) n (cE l)) (hEP : (Value.slice a n cap).ownBlock ≠ some P) :
    Calls Try.prog 58 #[.pointer (some ⟨P, 0, none⟩)] w fun e w' => ∃ ea ec gN gM vm LL lom, e = .returned vm ∧ BF P #[.int .i64 id, .int .i64 (nd : Int), .int .i64 tm, .int .i64 vt, .int .i64 2, .bool up, .slice ea (ldL tm l).length ec, .int .i64 ((advN id tm nd (ldL tm l) (List.replicate nd (0 : Int)) c (ldL tm l).length : Nat) : Int), .int .i64 0, .int .i64 wt, .slice av nv cv, .slice (some ⟨gN, 0, none⟩) nd nd, .slice (some ⟨gM, 0, none⟩) nd nd] w' ∧ w'.ownsRow lo 68 2 (.slice ea (ldL tm l).length ec) (ldL tm l).length (cE (ldL tm l)) ∧ w'.ownsRow w.heap.size 3 1 (.slice (some ⟨gN, 0, none⟩) nd nd) nd (cI (List.replicate nd ((n : Int) + 1))) ∧ w'.ownsRow w.heap.size 3 1 (.slice (some ⟨gM, 0, none⟩) nd nd) nd (cI (List.replicate nd (0 : Int))) ∧ gN ≠ gM ∧ (∀ j, (Value.slice ea (ldL tm l).length ec).ownBlock = some j → j ≠ P ∧ j ≠ gN ∧ j ≠ gM) ∧ (P < lom ∧ (∀ j, (Value.slice ea (ldL tm l).length ec).ownBlock = some j → j < lom) ∧ gN < lom ∧ gM < lom) ∧ LL.map (·.1) = tls id tm ((advN id tm nd (ldL tm l) (List.replicate nd (0 : Int)) c (ldL tm l).length : Nat) : Int) (ldL tm l) (fun _ => n) nd ∧ MOwn w' lom vm LL ∧ Two P (Value.slice a n cap).ownBlock w w' := by
  obtain ⟨ie, hie, hie0, hie1, hie2⟩ := info_parts Try.infE68
  have EP := hide hEP
  have EL : Hid (∀ j, (Value.slice a n cap).ownBlock = some j → j < w.heap.size) := fun j hj => (hE.lt j hj).2
  obtain ⟨w1, hw1, hP1, hf1, hb1⟩ := put2 w hP (o1 := 4) (o2 := 8) (by simp) (by simp) (.int .i64 2) (.int .i64 0)
  have P1 : Hid (BF P #[.int .i64 id, .int .i64 (nd : Int), .int .i64 tm, .int .i64 vt, .int .i64 2, .bool up, .slice a n cap, .int .i64 (c : Int), .int .i64 0, .int .i64 wt, .slice av nv cv, .slice ax nx cx, .slice ag ng cg] w1) := hP1
  have E1 := hide (own_farJ hE hf1 hEP)
  have T1 : Hid (Two P (Value.slice a n cap).ownBlock w w1) := ⟨hb1.os, hb1.tape, hb1.output, hb1.size, fun k _ h _ => hf1 k h⟩
  have PW : Hid (P < w.heap.size) := hP.lt
  have HW1 := hide hw1
  have kp := hP.S
  have kpf := hP.F
  have e1 : IntKind.i64.wrap ((n : Int) + 1) = (n : Int) + 1 := wrapi _ (by omega) (by omega)
  have LP : Hid (lo ≤ P) := hlo
  have HNX : Hid ((List.replicate nd ((n : Int) + 1)).length = nd) := by show _ = _; simp
  have HNG : Hid ((List.replicate nd (0 : Int)).length = nd) := by show _ = _; simp
  clear hP hE hEP hP1 hf1 hb1 hw1 hlo
  go_enter Try.func58, Try.ntmps58
  go_upto_region 2 with fail
  rw [← unhide HW1]
  clear kp kpf HW1
  have kp := (unhide P1).S
  go_wp2_with fail
  refine (ilast id (nd : Int) tm vt 2 (c : Int) 0 wt up a cap n av cv nv ax cx nx ag cg ng _).mono ?_
  rintro e w2 ⟨rfl, hb2⟩
  have P2 := hide ((unhide P1).below hb2)
  have E2 := hide (((heldZ_of (unhide E1)).below hb2 (Nat.le_refl _)).own)
  have T2 : Hid (Two P (Value.slice a n cap).ownBlock w w2) := (unhide T1).trans (Two.of_below hb2 (row := none)) (fun j _ e => by cases e)
  clear hb2 P1 E1 T1 kp
  go_wp2_with fail
  refine (istart P nd ((n : Int) + 1) hnd1 hnd id tm vt 2 (c : Int) 0 wt up _ _ _ _ w2 (unhide P2)).mono ?_
  rintro e w3 ⟨rfl, gN, gM, lN, hNN, lM, hMM, hP3, hX3, hG3, y1, y2, y3, y4, ho3⟩
  have P3 := hide hP3
  have bN := hX3.blk gN rfl
  have bM := hG3.blk gM rfl
  have sT := (unhide T2).size
  have E3 := hide (own_outs1 (unhide E2) ho3 (unhide EP))
  have T3 : Hid (Two P (Value.slice a n cap).ownBlock w w3) := (unhide T2).trans (Two.of_outs ho3 (row := none)) (fun j _ e => by cases e)
  have Y3 : Hid (w3.ownsRow w.heap.size 3 1 (.slice (some ⟨gN, 0, none⟩) nd nd) nd (cI (List.replicate nd ((n : Int) + 1))) ∧ w3.ownsRow w.heap.size 3 1 (.slice (some ⟨gM, 0, none⟩) nd nd) nd (cI (List.replicate nd (0 : Int)))) := ⟨own_low hX3.1 (by omega), own_low hG3.1 (by omega)⟩
  have NM : Hid (gN ≠ gM) := by show _ ≠ _; omega
  have NP : Hid (gN ≠ P ∧ gM ≠ P) := by show _ ∧ _; have := unhide PW; omega
  clear hP3 hX3 hG3 y1 y2 y3 y4 ho3 bN bM sT P2 E2 T2
  have kp := (unhide P3).S
  go_wp2_with fail
  refine (ilast id (nd : Int) tm vt 2 (c : Int) 0 wt up a cap n av cv nv (some ⟨gN, 0, none⟩) nd nd (some ⟨gM, 0, none⟩) nd nd _).mono ?_
  rintro e w4 ⟨rfl, hb4⟩
  have P4 := hide ((unhide P3).below hb4)
  have E4 := hide (((heldZ_of (unhide E3)).below hb4 (Nat.le_refl _)).own)
  have Y4 : Hid (_ ∧ _) := ⟨((heldZ_of (unhide Y3).1).below hb4 (Nat.le_refl _)).own, ((heldZ_of (unhide Y3).2).below hb4 (Nat.le_refl _)).own⟩
  have T4 : Hid (Two P (Value.slice a n cap).ownBlock w w4) := (unhide T3).trans (Two.of_below hb4 (row := none)) (fun j _ e => by cases e)
  clear hb4 P3 E3 Y3 T3 kp
  by_cases h60 : n < 60
  · have i60 : (n : Int) < 60 := by omega
    have HJ : Hid (∀ t (h : t < (List.replicate nd ((n : Int) + 1)).length), (List.replicate nd ((n : Int) + 1))[t] = (((fun _ => n) t : Nat) : Int) + 1 ∧ (fun _ => n) t ≤ n + 1) := fun t h => ⟨by simp, by simp⟩
    have T5 : Hid (Two P (Value.slice a n cap).ownBlock w w4.drew) := (unhide T4).trans (Two.of_below (Below.refl _ _).drew (row := none)) (fun j _ e => by cases e)
    have P5 := hide (unhide P4).drew
    have E5 := hide ((heldZ_of (unhide E4)).below (Below.refl _ _).drew (Nat.le_refl _)).own
    have Y5 : Hid (_ ∧ _) := ⟨((heldZ_of (unhide Y4).1).below (Below.refl _ _).drew (Nat.le_refl _)).own, ((heldZ_of (unhide Y4).2).below (Below.refl _ _).drew (Nat.le_refl _)).own⟩
    have kp4 := (unhide P4).S
    clear P4 E4 Y4 T4
    go_wp2_with fail
    refine wp_region_held_drew (S := fun w' => ∀ o, o ≠ 6 → w'.cell? ⟨P, o, none⟩ = (#[.int .i64 id, .int .i64 (nd : Int), .int .i64 tm, .int .i64 vt, .int .i64 2, .bool up, .slice a n cap, .int .i64 (c : Int), .int .i64 0, .int .i64 wt, .slice av nv cv, .slice (some ⟨gN, 0, none⟩) nd nd, .slice (some ⟨gM, 0, none⟩) nd nd] : Array Value)[o]?) (by kernel_rfl) (fun o _ => kp4 o) (fun hHeld => ?_)
    generalize w4.drew = w5 at T5 P5 E5 Y5 hHeld ⊢
    refine wtk (i := 0) (oi := { dst := some 21, op := .move (.tmp 0), type := 74, pos := "l08_raft.go:220", after := #[], guard := none }) (v := ?_) rfl (Or.inl ⟨by rfl, ?_⟩) (by assumption) ?_
    rotate_left 1
    · (intro w' hSw; (try dsimp only at hSw); go_simp; try with_reducible rfl)
    try simp only [Act.put, qqA, qqB, qqC]
    refine wtk (i := 1) (oi := { dst := some 22, op := .move (.tmp 0), type := 74, pos := "l08_raft.go:220", after := #[], guard := none }) (v := ?_) rfl (Or.inl ⟨by rfl, ?_⟩) (by assumption) ?_
    rotate_left 1
    · (intro w' hSw; (try dsimp only at hSw); go_simp; try with_reducible rfl)
    try simp only [Act.put, qqA, qqB, qqC]
    refine wtk (i := 2) (oi := { dst := some 23, op := .nilCheck (.tmp 22), type := 0, pos := "l08_raft.go:220", after := #[{ on := 1, ground := .data }], guard := none }) (v := ?_) rfl (Or.inl ⟨by rfl, ?_⟩) (by assumption) ?_
    rotate_left 1
    · (intro w' hSw; (try dsimp only at hSw); go_simp; try with_reducible rfl)
    try simp only [Act.put, qqA, qqB, qqC]
    refine wtk (i := 3) (oi := { dst := some 24, op := .fieldAddr 29 (.tmp 23) 6, type := 0, pos := "l08_raft.go:220", after := #[{ on := 2, ground := .data }], guard := none }) (v := ?_) rfl (Or.inl ⟨by rfl, ?_⟩) (by assumption) ?_
    rotate_left 1
    · (intro w' hSw; (try dsimp only at hSw); go_simp; try with_reducible rfl)
    try simp only [Act.put, qqA, qqB, qqC]
    refine wtk (i := 5) (oi := { dst := some 26, op := .move (.tmp 0), type := 74, pos := "l08_raft.go:220", after := #[], guard := none }) (v := ?_) rfl (Or.inl ⟨by rfl, ?_⟩) (by assumption) ?_
    rotate_left 1
    · (intro w' hSw; (try dsimp only at hSw); go_simp; try with_reducible rfl)
    try simp only [Act.put, qqA, qqB, qqC]
    refine wtk (i := 6) (oi := { dst := some 27, op := .nilCheck (.tmp 26), type := 0, pos := "l08_raft.go:220", after := #[{ on := 5, ground := .data }], guard := none }) (v := ?_) rfl (Or.inl ⟨by rfl, ?_⟩) (by assumption) ?_
    rotate_left 1
    · (intro w' hSw; (try dsimp only at hSw); go_simp; try with_reducible rfl)
    try simp only [Act.put, qqA, qqB, qqC]
    refine wtk (i := 7) (oi := { dst := some 28, op := .fieldAddr 29 (.tmp 27) 2, type := 0, pos := "l08_raft.go:220", after := #[{ on := 6, ground := .data }], guard := none }) (v := ?_) rfl (Or.inl ⟨by rfl, ?_⟩) (by assumption) ?_
    rotate_left 1
    · (intro w' hSw; (try dsimp only at hSw); go_simp; try with_reducible rfl)
    try simp only [Act.put, qqA, qqB, qqC]
    refine wtk (i := 8) (oi := { dst := some 29, op := .load 3 (.tmp 28), type := 3, pos := "l08_raft.go:220", after := #[{ on := 7, ground := .data }], guard := none }) (v := ?_) rfl (Or.inl ⟨by rfl, ?_⟩) (by assumption) ?_
    rotate_left 1
    · (intro w' hSw; (try dsimp only at hSw); go_simp; try with_reducible rfl)
    try simp only [Act.put, qqA, qqB, qqC]
    refine wtk (i := 9) (oi := { dst := some 30, op := .build 68 #[(0, .tmp 29)], type := 68, pos := "l08_raft.go:220", after := #[{ on := 8, ground := .data }], guard := none }) (v := ?_) rfl (Or.inl ⟨by rfl, ?_⟩) (by assumption) ?_
    rotate_left 1
    · (intro w' hSw; (try dsimp only at hSw); go_simp; try with_reducible rfl)
    try simp only [Act.put, qqA, qqB, qqC]
    refine wpAnyH_ready (rs := [4, 10]) (by kernel_rfl) (by simp) ?_
    refine AllReadyH.cons (o := oLdI0) rfl (fun K hK => ?_) (AllReadyH.cons (o := oLdI1) rfl (fun K hK => ?_) AllReadyH.nil)
    · skip
      have kp := (unhide P5).S
      go_simp
      refine hK.out _ _ ?_ (fun hHeldL => ?_)
      · exact fun o _ => (unhide P5).S o
      clear hK K kp
      try simp only [Act.put, qqA, qqB, qqC]
      refine wpAnyH_ready (rs := [10]) (by kernel_rfl) (by simp) ?_
      refine AllReadyH.cons (o := oLdI1) rfl (fun K hK => ?_) AllReadyH.nil
      obtain ⟨G, hG⟩ : ∃ G, G = w5.heap.size := ⟨_, rfl⟩
      have hb6 : Below w5.heap.size w5 (w5.alloc (.cells #[.int .i64 tm, .string ⟨#[]⟩] 68)) := Go.Joins.below_alloc1 w5 (.cells #[.int .i64 tm, .string ⟨#[]⟩] 68)
      have R6 := hide (BF.new w5 #[.int .i64 tm, .string ⟨#[]⟩] 68)
      have P6 := hide ((unhide P5).below hb6)
      have E6 := hide (((heldZ_of (unhide E5)).below hb6 (Nat.le_refl _)).own)
      have Y6 : Hid (_ ∧ _) := ⟨((heldZ_of (unhide Y5).1).below hb6 (Nat.le_refl _)).own, ((heldZ_of (unhide Y5).2).below hb6 (Nat.le_refl _)).own⟩
      have T6 : Hid (Two P (Value.slice a n cap).ownBlock w (w5.alloc (.cells #[.int .i64 tm, .string ⟨#[]⟩] 68))) := (unhide T5).trans (Two.of_below hb6) (fun j _ e => e)
      have z6 : Hid (P < (w5.alloc (.cells #[.int .i64 tm, .string ⟨#[]⟩] 68)).heap.size ∧ w.heap.size ≤ (w5.alloc (.cells #[.int .i64 tm, .string ⟨#[]⟩] 68)).heap.size) := ⟨(unhide P6).lt, (unhide T6).size⟩
      rw [← hG] at R6
      go_simp
      refine hK.out _ _ ?_ (fun hHeldB => ?_)
      · exact fun o _ => (unhide P6).S o
      clear hK K
      try simp only [Act.put, qqA, qqB, qqC]
      rw [← hG]
      clear hb6 hG
      generalize w5.alloc (.cells #[.int .i64 tm, .string ⟨#[]⟩] 68) = w6 at R6 P6 E6 Y6 T6 z6 hHeldB ⊢
      refine wpAnyH_ready (rs := [11]) (by kernel_rfl) (by simp) ?_
      refine AllReadyH.cons (o := oLdI2) rfl (fun K hK => ?_) AllReadyH.nil
      refine step_append_lies w6 rfl (.tmp 25) (.tmp 31) 27 rfl lo 68 ie (.agg #[.int .i64 0, .string ⟨#[]⟩]) 2 24 Try.underlying27 hie hie0 hie1 hie2 rfl (by decide) (.slice a n cap) n (cE l) rfl (unhide E6) ⟨G, 0, none⟩ 1 1 [.int .i64 tm, .string ⟨#[]⟩] rfl rfl (by intro j u hj; have e := (unhide R6).S j; rw [show (⟨G, 0, none⟩ : Addr).add j = ⟨G, j, none⟩ from (by unfold Addr.add; split <;> simp_all)]; rw [e]; simpa using hj) (by intro u hu; simp at hu; rcases hu with rfl | rfl <;> rfl) (by decide) (by unfold maxLen; omega) (by omega) (by have := unhide z6; have := unhide LP; omega) _ rfl ?_
      intro g7 c7 w7 ho7 hg7 hat7 hlt7
      have P7 := hide ((unhide P6).grown hg7 (unhide EP))
      have Y7 : Hid (_ ∧ _) := ⟨own_grown (unhide Y6).1 hg7 (fun j hj e => by have := (unhide Y6).1.lt j hj; have := unhide EL _ e; omega), own_grown (unhide Y6).2 hg7 (fun j hj e => by have := (unhide Y6).2.lt j hj; have := unhide EL _ e; omega)⟩
      have T7 : Hid (Two P (Value.slice a n cap).ownBlock w w7) := (unhide T6).trans (Two.of_grown hg7 (fun k _ e => .inr e)) (fun j _ e => e)
      have F7 : Hid (g7 ≠ P ∧ g7 ≠ gN ∧ g7 ≠ gM) := by
        have y1 := (unhide Y6).1.lt gN rfl
        have y2 := (unhide Y6).2.lt gM rfl
        show _ ∧ _
        rcases hat7 with h | h
        · have h1 := unhide EL _ h; exact ⟨fun e => unhide EP (by rw [h, e]), by omega, by omega⟩
        · have := unhide z6; omega
      have cc7 : n + 1 ≤ c7 := by
        rcases ho7.2 with ⟨hx0, _⟩ | ⟨gq, cq, cur, hvq, _, _, hnc, _⟩
        · cases hx0
        · injection hvq with _ _ e3; rw [e3]; exact hnc
      have E7 : Hid (w7.ownsRow lo 68 2 (.slice (some ⟨g7, 0, none⟩) (n + 1) c7) (n + 1) (cE (l ++ [(tm, (⟨#[]⟩ : ByteArray))]))) := by show World.ownsRow _ _ _ _ _ _ _; rw [cE_app]; exact ho7
      clear ho7 hg7 hat7 hlt7 P6 E6 Y6 T6 R6 z6
      refine hK.out _ _ ?_ (fun hHeld11 => ?_)
      · exact fun o _ => (unhide P7).S o
      clear hK K
      try simp only [Act.put, qqA, qqB, qqC]
      refine wtk (i := 12) (oi := oLdI3) (v := ?_) rfl (Or.inl ⟨by rfl, ?_⟩) (by assumption) ?_
      rotate_left 1
      · (intro w' hSw; (try dsimp only at hSw); go_simp; try with_reducible rfl)
      try simp only [Act.put, qqA, qqB, qqC]
      refine wtk (i := 13) (oi := oLdI4) (v := ?_) rfl (Or.inl ⟨by rfl, ?_⟩) (by assumption) ?_
      rotate_left 1
      · (intro w' hSw; (try dsimp only at hSw); go_simp; try with_reducible rfl)
      try simp only [Act.put, qqA, qqB, qqC]
      refine wpAnyH_ready (rs := [14]) (by kernel_rfl) (by simp) ?_
      refine AllReadyH.cons (o := oLdI5) rfl (fun K hK => ?_) AllReadyH.nil
      have kp := (unhide P7).S
      have kpf := (unhide P7).F
      obtain ⟨w8, hw8⟩ : ∃ w8, w8 = w7.setCell ⟨P, 6, none⟩ (.slice (some ⟨g7, 0, none⟩) (n + 1) c7) := ⟨_, rfl⟩
      have P8 : Hid (BF P #[.int .i64 id, .int .i64 (nd : Int), .int .i64 tm, .int .i64 vt, .int .i64 2, .bool up, .slice (some ⟨g7, 0, none⟩) (n + 1) c7, .int .i64 (c : Int), .int .i64 0, .int .i64 wt, .slice av nv cv, .slice (some ⟨gN, 0, none⟩) nd nd, .slice (some ⟨gM, 0, none⟩) nd nd] w8) := by rw [hw8]; exact (unhide P7).set 6 (by simp) _
      have hf8 : ∀ k, k ≠ P → w8.heap[k]? = w7.heap[k]? := fun k hk => by rw [hw8]; exact Below.heap_setCell _ _ _ _ hk
      have T8 : Hid (Two P (Value.slice a n cap).ownBlock w w8) := by rw [hw8]; exact (unhide T7).set
      have E8 := hide (own_keepB (unhide E7) (hf8 g7 (unhide F7).1))
      have Y8 : Hid (_ ∧ _) := ⟨own_keepB (unhide Y7).1 (hf8 gN (unhide NP).1), own_keepB (unhide Y7).2 (hf8 gM (unhide NP).2)⟩
      have k8 : ∀ o, o ≠ 6 → w8.cell? ⟨P, o, none⟩ = (#[.int .i64 id, .int .i64 (nd : Int), .int .i64 tm, .int .i64 vt, .int .i64 2, .bool up, .slice a n cap, .int .i64 (c : Int), .int .i64 0, .int .i64 wt, .slice av nv cv, .slice (some ⟨gN, 0, none⟩) nd nd, .slice (some ⟨gM, 0, none⟩) nd nd] : Array Value)[o]? := fun o ho => by rw [(unhide P8).S o]; exact arr6 _ _ _ _ _ _ _ _ _ _ _ _ _ _ o ho
      go_simp
      rw [← hw8]
      refine hK.out _ _ ?_ (fun hHeld14 => ?_)
      · exact k8
      clear hK K
      try simp only [Act.put, qqA, qqB, qqC]
      refine wpAnyH_done (by kernel_rfl) ?_ _
      clear kp kpf hw8 hf8 k8 P7 Y7 T7 E7 hHeld
      have HN8 : Hid ((l ++ [(tm, (⟨#[]⟩ : ByteArray))]).length = n + 1) := by show _ = _; rw [List.length_append, unhide HN]; rfl
      have HL8 : Hid (l ++ [(tm, (⟨#[]⟩ : ByteArray))] = ldL tm l) := by show _ = _; unfold ldL; rw [if_pos (by rw [unhide HN]; exact h60)]
      have O8 : Hid (∀ j, (Value.slice (some ⟨g7, 0, none⟩) (n + 1) c7).ownBlock = some j → j ≠ P ∧ j ≠ gN ∧ j ≠ gM) := fun j hj => by have e : g7 = j := Option.some.inj hj; subst e; exact unhide F7
      go_wp2_with fail
      refine (iadvance P id nd tm vt 2 c 0 wt up (some ⟨g7, 0, none⟩) c7 (n + 1) av cv nv (some ⟨gN, 0, none⟩) nd nd (some ⟨gM, 0, none⟩) nd nd (l ++ [(tm, (⟨#[]⟩ : ByteArray))]) HN8 (by omega) (List.replicate nd (0 : Int)) HNG (by omega) hnd (by omega) w8 (unhide P8) (rowZ_at (unhide E8)) (rowZ_at (unhide Y8).2)).mono ?_
      rintro e w9 ⟨rfl, hP9, hg9⟩
      obtain ⟨CC, hCC⟩ : ∃ CC : Int, CC = ((advN id tm nd (l ++ [(tm, (⟨#[]⟩ : ByteArray))]) (List.replicate nd (0 : Int)) c (n + 1) : Nat) : Int) := ⟨_, rfl⟩
      rw [← hCC] at hP9
      have P9 := hide hP9
      have E9 := hide (own_grown (unhide E8) hg9 (fun j hj e => (unhide O8 j hj).1 (Option.some.inj e).symm))
      have Y9 : Hid (_ ∧ _) := ⟨own_grown (unhide Y8).1 hg9 (fun j hj e => (unhide NP).1 ((Option.some.inj hj).trans (Option.some.inj e).symm)), own_grown (unhide Y8).2 hg9 (fun j hj e => (unhide NP).2 ((Option.some.inj hj).trans (Option.some.inj e).symm))⟩
      have T9 : Hid (Two P (Value.slice a n cap).ownBlock w w9) := (unhide T8).trans (Two.of_grown hg9 (fun k _ e => .inl (Option.some.inj e).symm) (row := none)) (fun j _ e => by cases e)
      have HCC := hide hCC
      clear hP9 hg9 hCC P8 E8 Y8 T8
      have kp := (unhide P9).S
      go_wp2_with fail
      refine (itellall id nd tm vt 2 CC 0 wt up (some ⟨g7, 0, none⟩) c7 (n + 1) av cv nv (some ⟨gN, 0, none⟩) nd nd (some ⟨gM, 0, none⟩) nd nd (l ++ [(tm, (⟨#[]⟩ : ByteArray))]) HN8 (by omega) (List.replicate nd ((n : Int) + 1)) (fun _ => n) HJ HNX hnd rfl cc7 _ (rowZ_at (unhide E9)) (rowZ_at (unhide Y9).1)).mono ?_
      rintro e w10 ⟨vm, LL, rfl, hL, hM, hb⟩
      have FIN : Hid (BF P #[.int .i64 id, .int .i64 (nd : Int), .int .i64 tm, .int .i64 vt, .int .i64 2, .bool up, .slice (some ⟨g7, 0, none⟩) (n + 1) c7, .int .i64 CC, .int .i64 0, .int .i64 wt, .slice av nv cv, .slice (some ⟨gN, 0, none⟩) nd nd, .slice (some ⟨gM, 0, none⟩) nd nd] w10 ∧ w10.ownsRow lo 68 2 (.slice (some ⟨g7, 0, none⟩) (n + 1) c7) (n + 1) (cE (l ++ [(tm, (⟨#[]⟩ : ByteArray))])) ∧ w10.ownsRow w.heap.size 3 1 (.slice (some ⟨gN, 0, none⟩) nd nd) nd (cI (List.replicate nd ((n : Int) + 1))) ∧ w10.ownsRow w.heap.size 3 1 (.slice (some ⟨gM, 0, none⟩) nd nd) nd (cI (List.replicate nd (0 : Int))) ∧ Two P (Value.slice a n cap).ownBlock w w10) :=
        ⟨(unhide P9).below hb, ((heldZ_of (unhide E9)).below hb (Nat.le_refl _)).own, ((heldZ_of (unhide Y9).1).below hb (Nat.le_refl _)).own, ((heldZ_of (unhide Y9).2).below hb (Nat.le_refl _)).own, (unhide T9).trans (Two.of_below hb (row := none)) (fun j _ e => by cases e)⟩
      have LM : Hid (P < w9.heap.size ∧ (∀ j, (Value.slice (some ⟨g7, 0, none⟩) (n + 1) c7).ownBlock = some j → j < w9.heap.size) ∧ gN < w9.heap.size ∧ gM < w9.heap.size) := ⟨(unhide P9).lt, fun j hj => ((unhide E9).lt j hj).2, ((unhide Y9).1.lt gN rfl).2, ((unhide Y9).2.lt gM rfl).2⟩
      obtain ⟨am, cm9, rfl, -⟩ := ownZ_rowV hM.row
      have HM := hide hM
      have HLL := hide hL
      clear hb hM hL P9 E9 Y9 T9 kp
      go_wp2_with fail
      go_ret
      obtain ⟨f1, f2, f3, f4, f5⟩ := unhide FIN
      exact ⟨(some ⟨g7, 0, none⟩), c7, gN, gM, _, LL, w9.heap.size, rfl, by rw [← unhide HL8, unhide HN8, ← unhide HCC]; exact f1, by rw [← unhide HL8, unhide HN8]; exact f2, f3, f4, unhide NM, by rw [← unhide HL8, unhide HN8]; exact unhide O8, by rw [← unhide HL8, unhide HN8]; exact unhide LM, by rw [unhide HLL, unhide HCC, ← unhide HL8, unhide HN8], unhide HM, f5⟩
    · skip
      obtain ⟨G, hG⟩ : ∃ G, G = w5.heap.size := ⟨_, rfl⟩
      have hb6 : Below w5.heap.size w5 (w5.alloc (.cells #[.int .i64 tm, .string ⟨#[]⟩] 68)) := Go.Joins.below_alloc1 w5 (.cells #[.int .i64 tm, .string ⟨#[]⟩] 68)
      have R6 := hide (BF.new w5 #[.int .i64 tm, .string ⟨#[]⟩] 68)
      have P6 := hide ((unhide P5).below hb6)
      have E6 := hide (((heldZ_of (unhide E5)).below hb6 (Nat.le_refl _)).own)
      have Y6 : Hid (_ ∧ _) := ⟨((heldZ_of (unhide Y5).1).below hb6 (Nat.le_refl _)).own, ((heldZ_of (unhide Y5).2).below hb6 (Nat.le_refl _)).own⟩
      have T6 : Hid (Two P (Value.slice a n cap).ownBlock w (w5.alloc (.cells #[.int .i64 tm, .string ⟨#[]⟩] 68))) := (unhide T5).trans (Two.of_below hb6) (fun j _ e => e)
      have z6 : Hid (P < (w5.alloc (.cells #[.int .i64 tm, .string ⟨#[]⟩] 68)).heap.size ∧ w.heap.size ≤ (w5.alloc (.cells #[.int .i64 tm, .string ⟨#[]⟩] 68)).heap.size) := ⟨(unhide P6).lt, (unhide T6).size⟩
      rw [← hG] at R6
      go_simp
      refine hK.out _ _ ?_ (fun hHeldB => ?_)
      · exact fun o _ => (unhide P6).S o
      clear hK K
      try simp only [Act.put, qqA, qqB, qqC]
      rw [← hG]
      clear hb6 hG
      generalize w5.alloc (.cells #[.int .i64 tm, .string ⟨#[]⟩] 68) = w6 at R6 P6 E6 Y6 T6 z6 hHeldB ⊢
      refine wpAnyH_ready (rs := [4]) (by kernel_rfl) (by simp) ?_
      refine AllReadyH.cons (o := oLdI0) rfl (fun K hK => ?_) AllReadyH.nil
      have kp := (unhide P6).S
      go_simp
      refine hK.out _ _ ?_ (fun hHeldL => ?_)
      · exact fun o _ => (unhide P6).S o
      clear hK K kp
      try simp only [Act.put, qqA, qqB, qqC]
      refine wpAnyH_ready (rs := [11]) (by kernel_rfl) (by simp) ?_
      refine AllReadyH.cons (o := oLdI2) rfl (fun K hK => ?_) AllReadyH.nil
      refine step_append_lies w6 rfl (.tmp 25) (.tmp 31) 27 rfl lo 68 ie (.agg #[.int .i64 0, .string ⟨#[]⟩]) 2 24 Try.underlying27 hie hie0 hie1 hie2 rfl (by decide) (.slice a n cap) n (cE l) rfl (unhide E6) ⟨G, 0, none⟩ 1 1 [.int .i64 tm, .string ⟨#[]⟩] rfl rfl (by intro j u hj; have e := (unhide R6).S j; rw [show (⟨G, 0, none⟩ : Addr).add j = ⟨G, j, none⟩ from (by unfold Addr.add; split <;> simp_all)]; rw [e]; simpa using hj) (by intro u hu; simp at hu; rcases hu with rfl | rfl <;> rfl) (by decide) (by unfold maxLen; omega) (by omega) (by have := unhide z6; have := unhide LP; omega) _ rfl ?_
      intro g7 c7 w7 ho7 hg7 hat7 hlt7
      have P7 := hide ((unhide P6).grown hg7 (unhide EP))
      have Y7 : Hid (_ ∧ _) := ⟨own_grown (unhide Y6).1 hg7 (fun j hj e => by have := (unhide Y6).1.lt j hj; have := unhide EL _ e; omega), own_grown (unhide Y6).2 hg7 (fun j hj e => by have := (unhide Y6).2.lt j hj; have := unhide EL _ e; omega)⟩
      have T7 : Hid (Two P (Value.slice a n cap).ownBlock w w7) := (unhide T6).trans (Two.of_grown hg7 (fun k _ e => .inr e)) (fun j _ e => e)
      have F7 : Hid (g7 ≠ P ∧ g7 ≠ gN ∧ g7 ≠ gM) := by
        have y1 := (unhide Y6).1.lt gN rfl
        have y2 := (unhide Y6).2.lt gM rfl
        show _ ∧ _
        rcases hat7 with h | h
        · have h1 := unhide EL _ h; exact ⟨fun e => unhide EP (by rw [h, e]), by omega, by omega⟩
        · have := unhide z6; omega
      have cc7 : n + 1 ≤ c7 := by
        rcases ho7.2 with ⟨hx0, _⟩ | ⟨gq, cq, cur, hvq, _, _, hnc, _⟩
        · cases hx0
        · injection hvq with _ _ e3; rw [e3]; exact hnc
      have E7 : Hid (w7.ownsRow lo 68 2 (.slice (some ⟨g7, 0, none⟩) (n + 1) c7) (n + 1) (cE (l ++ [(tm, (⟨#[]⟩ : ByteArray))]))) := by show World.ownsRow _ _ _ _ _ _ _; rw [cE_app]; exact ho7
      clear ho7 hg7 hat7 hlt7 P6 E6 Y6 T6 R6 z6
      refine hK.out _ _ ?_ (fun hHeld11 => ?_)
      · exact fun o _ => (unhide P7).S o
      clear hK K
      try simp only [Act.put, qqA, qqB, qqC]
      refine wtk (i := 12) (oi := oLdI3) (v := ?_) rfl (Or.inl ⟨by rfl, ?_⟩) (by assumption) ?_
      rotate_left 1
      · (intro w' hSw; (try dsimp only at hSw); go_simp; try with_reducible rfl)
      try simp only [Act.put, qqA, qqB, qqC]
      refine wtk (i := 13) (oi := oLdI4) (v := ?_) rfl (Or.inl ⟨by rfl, ?_⟩) (by assumption) ?_
      rotate_left 1
      · (intro w' hSw; (try dsimp only at hSw); go_simp; try with_reducible rfl)
      try simp only [Act.put, qqA, qqB, qqC]
      refine wpAnyH_ready (rs := [14]) (by kernel_rfl) (by simp) ?_
      refine AllReadyH.cons (o := oLdI5) rfl (fun K hK => ?_) AllReadyH.nil
      have kp := (unhide P7).S
      have kpf := (unhide P7).F
      obtain ⟨w8, hw8⟩ : ∃ w8, w8 = w7.setCell ⟨P, 6, none⟩ (.slice (some ⟨g7, 0, none⟩) (n + 1) c7) := ⟨_, rfl⟩
      have P8 : Hid (BF P #[.int .i64 id, .int .i64 (nd : Int), .int .i64 tm, .int .i64 vt, .int .i64 2, .bool up, .slice (some ⟨g7, 0, none⟩) (n + 1) c7, .int .i64 (c : Int), .int .i64 0, .int .i64 wt, .slice av nv cv, .slice (some ⟨gN, 0, none⟩) nd nd, .slice (some ⟨gM, 0, none⟩) nd nd] w8) := by rw [hw8]; exact (unhide P7).set 6 (by simp) _
      have hf8 : ∀ k, k ≠ P → w8.heap[k]? = w7.heap[k]? := fun k hk => by rw [hw8]; exact Below.heap_setCell _ _ _ _ hk
      have T8 : Hid (Two P (Value.slice a n cap).ownBlock w w8) := by rw [hw8]; exact (unhide T7).set
      have E8 := hide (own_keepB (unhide E7) (hf8 g7 (unhide F7).1))
      have Y8 : Hid (_ ∧ _) := ⟨own_keepB (unhide Y7).1 (hf8 gN (unhide NP).1), own_keepB (unhide Y7).2 (hf8 gM (unhide NP).2)⟩
      have k8 : ∀ o, o ≠ 6 → w8.cell? ⟨P, o, none⟩ = (#[.int .i64 id, .int .i64 (nd : Int), .int .i64 tm, .int .i64 vt, .int .i64 2, .bool up, .slice a n cap, .int .i64 (c : Int), .int .i64 0, .int .i64 wt, .slice av nv cv, .slice (some ⟨gN, 0, none⟩) nd nd, .slice (some ⟨gM, 0, none⟩) nd nd] : Array Value)[o]? := fun o ho => by rw [(unhide P8).S o]; exact arr6 _ _ _ _ _ _ _ _ _ _ _ _ _ _ o ho
      go_simp
      rw [← hw8]
      refine hK.out _ _ ?_ (fun hHeld14 => ?_)
      · exact k8
      clear hK K
      try simp only [Act.put, qqA, qqB, qqC]
      refine wpAnyH_done (by kernel_rfl) ?_ _
      clear kp kpf hw8 hf8 k8 P7 Y7 T7 E7 hHeld
      have HN8 : Hid ((l ++ [(tm, (⟨#[]⟩ : ByteArray))]).length = n + 1) := by show _ = _; rw [List.length_append, unhide HN]; rfl
      have HL8 : Hid (l ++ [(tm, (⟨#[]⟩ : ByteArray))] = ldL tm l) := by show _ = _; unfold ldL; rw [if_pos (by rw [unhide HN]; exact h60)]
      have O8 : Hid (∀ j, (Value.slice (some ⟨g7, 0, none⟩) (n + 1) c7).ownBlock = some j → j ≠ P ∧ j ≠ gN ∧ j ≠ gM) := fun j hj => by have e : g7 = j := Option.some.inj hj; subst e; exact unhide F7
      go_wp2_with fail
      refine (iadvance P id nd tm vt 2 c 0 wt up (some ⟨g7, 0, none⟩) c7 (n + 1) av cv nv (some ⟨gN, 0, none⟩) nd nd (some ⟨gM, 0, none⟩) nd nd (l ++ [(tm, (⟨#[]⟩ : ByteArray))]) HN8 (by omega) (List.replicate nd (0 : Int)) HNG (by omega) hnd (by omega) w8 (unhide P8) (rowZ_at (unhide E8)) (rowZ_at (unhide Y8).2)).mono ?_
      rintro e w9 ⟨rfl, hP9, hg9⟩
      obtain ⟨CC, hCC⟩ : ∃ CC : Int, CC = ((advN id tm nd (l ++ [(tm, (⟨#[]⟩ : ByteArray))]) (List.replicate nd (0 : Int)) c (n + 1) : Nat) : Int) := ⟨_, rfl⟩
      rw [← hCC] at hP9
      have P9 := hide hP9
      have E9 := hide (own_grown (unhide E8) hg9 (fun j hj e => (unhide O8 j hj).1 (Option.some.inj e).symm))
      have Y9 : Hid (_ ∧ _) := ⟨own_grown (unhide Y8).1 hg9 (fun j hj e => (unhide NP).1 ((Option.some.inj hj).trans (Option.some.inj e).symm)), own_grown (unhide Y8).2 hg9 (fun j hj e => (unhide NP).2 ((Option.some.inj hj).trans (Option.some.inj e).symm))⟩
      have T9 : Hid (Two P (Value.slice a n cap).ownBlock w w9) := (unhide T8).trans (Two.of_grown hg9 (fun k _ e => .inl (Option.some.inj e).symm) (row := none)) (fun j _ e => by cases e)
      have HCC := hide hCC
      clear hP9 hg9 hCC P8 E8 Y8 T8
      have kp := (unhide P9).S
      go_wp2_with fail
      refine (itellall id nd tm vt 2 CC 0 wt up (some ⟨g7, 0, none⟩) c7 (n + 1) av cv nv (some ⟨gN, 0, none⟩) nd nd (some ⟨gM, 0, none⟩) nd nd (l ++ [(tm, (⟨#[]⟩ : ByteArray))]) HN8 (by omega) (List.replicate nd ((n : Int) + 1)) (fun _ => n) HJ HNX hnd rfl cc7 _ (rowZ_at (unhide E9)) (rowZ_at (unhide Y9).1)).mono ?_
      rintro e w10 ⟨vm, LL, rfl, hL, hM, hb⟩
      have FIN : Hid (BF P #[.int .i64 id, .int .i64 (nd : Int), .int .i64 tm, .int .i64 vt, .int .i64 2, .bool up, .slice (some ⟨g7, 0, none⟩) (n + 1) c7, .int .i64 CC, .int .i64 0, .int .i64 wt, .slice av nv cv, .slice (some ⟨gN, 0, none⟩) nd nd, .slice (some ⟨gM, 0, none⟩) nd nd] w10 ∧ w10.ownsRow lo 68 2 (.slice (some ⟨g7, 0, none⟩) (n + 1) c7) (n + 1) (cE (l ++ [(tm, (⟨#[]⟩ : ByteArray))])) ∧ w10.ownsRow w.heap.size 3 1 (.slice (some ⟨gN, 0, none⟩) nd nd) nd (cI (List.replicate nd ((n : Int) + 1))) ∧ w10.ownsRow w.heap.size 3 1 (.slice (some ⟨gM, 0, none⟩) nd nd) nd (cI (List.replicate nd (0 : Int))) ∧ Two P (Value.slice a n cap).ownBlock w w10) :=
        ⟨(unhide P9).below hb, ((heldZ_of (unhide E9)).below hb (Nat.le_refl _)).own, ((heldZ_of (unhide Y9).1).below hb (Nat.le_refl _)).own, ((heldZ_of (unhide Y9).2).below hb (Nat.le_refl _)).own, (unhide T9).trans (Two.of_below hb (row := none)) (fun j _ e => by cases e)⟩
      have LM : Hid (P < w9.heap.size ∧ (∀ j, (Value.slice (some ⟨g7, 0, none⟩) (n + 1) c7).ownBlock = some j → j < w9.heap.size) ∧ gN < w9.heap.size ∧ gM < w9.heap.size) := ⟨(unhide P9).lt, fun j hj => ((unhide E9).lt j hj).2, ((unhide Y9).1.lt gN rfl).2, ((unhide Y9).2.lt gM rfl).2⟩
      obtain ⟨am, cm9, rfl, -⟩ := ownZ_rowV hM.row
      have HM := hide hM
      have HLL := hide hL
      clear hb hM hL P9 E9 Y9 T9 kp
      go_wp2_with fail
      go_ret
      obtain ⟨f1, f2, f3, f4, f5⟩ := unhide FIN
      exact ⟨(some ⟨g7, 0, none⟩), c7, gN, gM, _, LL, w9.heap.size, rfl, by rw [← unhide HL8, unhide HN8, ← unhide HCC]; exact f1, by rw [← unhide HL8, unhide HN8]; exact f2, f3, f4, unhide NM, by rw [← unhide HL8, unhide HN8]; exact unhide O8, by rw [← unhide HL8, unhide HN8]; exact unhide LM, by rw [unhide HLL, unhide HCC, ← unhide HL8, unhide HN8], unhide HM, f5⟩
  · have i60 : ¬ (n : Int) < 60 := by omega
    have HJ : Hid (∀ t (h : t < (List.replicate nd ((n : Int) + 1)).length), (List.replicate nd ((n : Int) + 1))[t] = (((fun _ => n) t : Nat) : Int) + 1 ∧ (fun _ => n) t ≤ n) := fun t h => ⟨by simp, by simp⟩
    obtain ⟨w8, hw8⟩ : ∃ w8, w8 = w4 := ⟨_, rfl⟩
    have P8 : Hid (BF P #[.int .i64 id, .int .i64 (nd : Int), .int .i64 tm, .int .i64 vt, .int .i64 2, .bool up, .slice a n cap, .int .i64 (c : Int), .int .i64 0, .int .i64 wt, .slice av nv cv, .slice (some ⟨gN, 0, none⟩) nd nd, .slice (some ⟨gM, 0, none⟩) nd nd] w8) := by rw [hw8]; exact P4
    have E8 : Hid (w8.ownsRow lo 68 2 (.slice a n cap) n (cE l)) := by rw [hw8]; exact E4
    have Y8 : Hid (w8.ownsRow w.heap.size 3 1 (.slice (some ⟨gN, 0, none⟩) nd nd) nd (cI (List.replicate nd ((n : Int) + 1))) ∧ w8.ownsRow w.heap.size 3 1 (.slice (some ⟨gM, 0, none⟩) nd nd) nd (cI (List.replicate nd (0 : Int)))) := by rw [hw8]; exact Y4
    have T8 : Hid (Two P (Value.slice a n cap).ownBlock w w8) := by rw [hw8]; exact T4
    have HN8 := HN
    have HL8 : Hid (l = ldL tm l) := by show _ = _; unfold ldL; rw [if_neg (by rw [unhide HN]; omega)]
    have O8 : Hid (∀ j, (Value.slice a n cap).ownBlock = some j → j ≠ P ∧ j ≠ gN ∧ j ≠ gM) := fun j hj => ⟨fun e => unhide EP (by rw [← e]; exact hj), by have := (unhide Y4).1.lt gN rfl; have := unhide EL j hj; omega, by have := (unhide Y4).2.lt gM rfl; have := unhide EL j hj; omega⟩
    rw [← hw8]
    clear hw8 P4 E4 Y4 T4
    go_wp2_with fail
    refine (iadvance P id nd tm vt 2 c 0 wt up a cap n av cv nv (some ⟨gN, 0, none⟩) nd nd (some ⟨gM, 0, none⟩) nd nd l HN8 (by omega) (List.replicate nd (0 : Int)) HNG (by omega) hnd (by omega) w8 (unhide P8) (rowZ_at (unhide E8)) (rowZ_at (unhide Y8).2)).mono ?_
    rintro e w9 ⟨rfl, hP9, hg9⟩
    obtain ⟨CC, hCC⟩ : ∃ CC : Int, CC = ((advN id tm nd l (List.replicate nd (0 : Int)) c n : Nat) : Int) := ⟨_, rfl⟩
    rw [← hCC] at hP9
    have P9 := hide hP9
    have E9 := hide (own_grown (unhide E8) hg9 (fun j hj e => (unhide O8 j hj).1 (Option.some.inj e).symm))
    have Y9 : Hid (_ ∧ _) := ⟨own_grown (unhide Y8).1 hg9 (fun j hj e => (unhide NP).1 ((Option.some.inj hj).trans (Option.some.inj e).symm)), own_grown (unhide Y8).2 hg9 (fun j hj e => (unhide NP).2 ((Option.some.inj hj).trans (Option.some.inj e).symm))⟩
    have T9 : Hid (Two P (Value.slice a n cap).ownBlock w w9) := (unhide T8).trans (Two.of_grown hg9 (fun k _ e => .inl (Option.some.inj e).symm) (row := none)) (fun j _ e => by cases e)
    have HCC := hide hCC
    clear hP9 hg9 hCC P8 E8 Y8 T8
    have kp := (unhide P9).S
    go_wp2_with fail
    refine (itellall id nd tm vt 2 CC 0 wt up a cap n av cv nv (some ⟨gN, 0, none⟩) nd nd (some ⟨gM, 0, none⟩) nd nd l HN8 (by omega) (List.replicate nd ((n : Int) + 1)) (fun _ => n) HJ HNX hnd rfl hnc _ (rowZ_at (unhide E9)) (rowZ_at (unhide Y9).1)).mono ?_
    rintro e w10 ⟨vm, LL, rfl, hL, hM, hb⟩
    have FIN : Hid (BF P #[.int .i64 id, .int .i64 (nd : Int), .int .i64 tm, .int .i64 vt, .int .i64 2, .bool up, .slice a n cap, .int .i64 CC, .int .i64 0, .int .i64 wt, .slice av nv cv, .slice (some ⟨gN, 0, none⟩) nd nd, .slice (some ⟨gM, 0, none⟩) nd nd] w10 ∧ w10.ownsRow lo 68 2 (.slice a n cap) n (cE l) ∧ w10.ownsRow w.heap.size 3 1 (.slice (some ⟨gN, 0, none⟩) nd nd) nd (cI (List.replicate nd ((n : Int) + 1))) ∧ w10.ownsRow w.heap.size 3 1 (.slice (some ⟨gM, 0, none⟩) nd nd) nd (cI (List.replicate nd (0 : Int))) ∧ Two P (Value.slice a n cap).ownBlock w w10) :=
      ⟨(unhide P9).below hb, ((heldZ_of (unhide E9)).below hb (Nat.le_refl _)).own, ((heldZ_of (unhide Y9).1).below hb (Nat.le_refl _)).own, ((heldZ_of (unhide Y9).2).below hb (Nat.le_refl _)).own, (unhide T9).trans (Two.of_below hb (row := none)) (fun j _ e => by cases e)⟩
    have LM : Hid (P < w9.heap.size ∧ (∀ j, (Value.slice a n cap).ownBlock = some j → j < w9.heap.size) ∧ gN < w9.heap.size ∧ gM < w9.heap.size) := ⟨(unhide P9).lt, fun j hj => ((unhide E9).lt j hj).2, ((unhide Y9).1.lt gN rfl).2, ((unhide Y9).2.lt gM rfl).2⟩
    obtain ⟨am, cm9, rfl, -⟩ := ownZ_rowV hM.row
    have HM := hide hM
    have HLL := hide hL
    clear hb hM hL P9 E9 Y9 T9 kp
    go_wp2_with fail
    go_ret
    obtain ⟨f1, f2, f3, f4, f5⟩ := unhide FIN
    exact ⟨a, cap, gN, gM, _, LL, w9.heap.size, rfl, by rw [← unhide HL8, unhide HN8, ← unhide HCC]; exact f1, by rw [← unhide HL8, unhide HN8]; exact f2, f3, f4, unhide NM, by rw [← unhide HL8, unhide HN8]; exact unhide O8, by rw [← unhide HL8, unhide HN8]; exact unhide LM, by rw [unhide HLL, unhide HCC, ← unhide HL8, unhide HN8], unhide HM, f5⟩
end Go.Proofs.Ytjlajpnhcphngaa
