/- A node asks all others for their votes: what the program answers. -/
import Derived.Test.YtjlajpnhcphngaaZG16
import Derived.Deep.Cut
namespace Go.Proofs.Ytjlajpnhcphngaa
open Go.ChangeShapes Go.WideShapes Go.ChangeAt Go.RowKit
set_option linter.unusedVariables false
set_option maxHeartbeats 4000000 in
set_option maxRecDepth 100000 in
theorem iask (id : Int) (nd : Nat) (tm vt ro : Int) (c : Nat) (el wt : Int) (up : Bool) (a : Option Addr) (cap n : Nat) (av : Option Addr) (cv nv : Nat) (ax : Option Addr) (cx nx : Nat) (ag : Option Addr) (cg ng : Nat) (l : List Ent) (HN : Hid (l.length = n)) (hn : n ≤ 1048576) (TT : Int) (HT : Hid (TT = tAt l n)) (hnd : nd ≤ 5) (w : World) (hr : RowV w a (cE l)) :
    Calls Try.prog 59 #[.agg #[.int .i64 id, .int .i64 (nd : Int), .int .i64 tm, .int .i64 vt, .int .i64 ro, .bool up, .slice a n cap, .int .i64 (c : Int), .int .i64 el, .int .i64 wt, .slice av nv cv, .slice ax nx cx, .slice ag ng cg]] w fun e w' => ∃ v L, e = .returned v ∧ L.map (·.1) = asks id tm n TT nd ∧ MOwn w' w.heap.size v L ∧ Below w.heap.size w w' := by
  have B0 := hide (Go.Joins.below_alloc1 w (.cells #[.int .i64 id, .int .i64 (nd : Int), .int .i64 tm, .int .i64 vt, .int .i64 ro, .bool up, .slice a n cap, .int .i64 (c : Int), .int .i64 el, .int .i64 wt, .slice av nv cv, .slice ax nx cx, .slice ag ng cg] 29))
  have A0 := hide (BF.new w #[.int .i64 id, .int .i64 (nd : Int), .int .i64 tm, .int .i64 vt, .int .i64 ro, .bool up, .slice a n cap, .int .i64 (c : Int), .int .i64 el, .int .i64 wt, .slice av nv cv, .slice ax nx cx, .slice ag ng cg] 29)
  have HR := hide hr
  clear hr
  have ka := (unhide A0).S
  obtain ⟨i0, hi, hz0, hz1, hz2⟩ := info_parts Try.infM54
  go_enter Try.func59, Try.ntmps59
  go_wp2_with fail
  clear ka
  go_loopw [3, 8] (fun s i wr => ∃ (k q : Nat) (v : Value) (L : List MgA), k ≤ nd ∧ i = .int .i64 k ∧ s = v ∧ q ≤ k ∧ Hid (L.length = q) ∧ Hid (L.map (·.1) = asks id tm n TT k) ∧ Hid (MOwn wr (w.heap.size + 1) v L) ∧ Hid (BF w.heap.size #[.int .i64 id, .int .i64 (nd : Int), .int .i64 tm, .int .i64 vt, .int .i64 ro, .bool up, .slice a n cap, .int .i64 (c : Int), .int .i64 el, .int .i64 wt, .slice av nv cv, .slice ax nx cx, .slice ag ng cg] wr) ∧ Hid (Below w.heap.size w wr)) (fun _ i _ => nd - (intOf i).toNat)
  case atStart => exact ⟨0, 0, _, [], by omega, rfl, rfl, by omega, rfl, rfl, MOwn.nil _ _, A0, B0⟩
  case round =>
    clear A0 B0
    obtain ⟨k, q, v, L, hk, rfl, rfl, hqk, HQ, HL, HO, A1, B1⟩ := hrel
    have ka := (unhide A1).S
    by_cases hlt : k < nd
    · have i1 : (k : Int) < (nd : Int) := by omega
      by_cases hid : (k : Int) = id
      · have z1 : ((k : Int) != id) = false := by simpa using hid
        have HL2 : Hid (L.map (·.1) = asks id tm n TT (k + 1)) := by show _ = _; rw [asks_self hid]; exact unhide HL
        clear hid HL
        go_wp2_with fail
        go_roundw
        case rel => exact ⟨k + 1, q, _, L, by omega, by go_num, rfl, by omega, HQ, HL2, HO, A1, B1⟩
        case measure => simp [intOf]; omega
      · have z1 : ((k : Int) != id) = true := by simpa using hid
        have HL2 : Hid (L.map (·.1) ++ [askM id tm n TT k] = asks id tm n TT (k + 1)) := by show _ = _; rw [asks_snoc hid, unhide HL]
        obtain ⟨av1, cv1, hve, -⟩ := ownZ_rowV (unhide HO).row
        rw [unhide HQ] at hve
        subst hve
        clear hid HL
        go_wp2_with fail
        refine (imsgv id (nd : Int) tm vt ro (c : Int) el wt up a cap n av cv nv ax cx nx ag cg ng 1 (k : Int) _).mono ?_
        rintro e w1 ⟨rfl, hb1⟩
        obtain ⟨Q, hQ⟩ : ∃ Q, Q = w1.heap.size := ⟨_, rfl⟩
        have hba : Below w1.heap.size w1 (w1.alloc (.cells #[.int .i64 1, .int .i64 id, .int .i64 (k : Int), .int .i64 tm, .int .i64 0, .int .i64 0, .int .i64 0, .bool false, .slice none 0 0] 54)) := Go.Joins.below_alloc1 w1 (.cells #[.int .i64 1, .int .i64 id, .int .i64 (k : Int), .int .i64 tm, .int .i64 0, .int .i64 0, .int .i64 0, .bool false, .slice none 0 0] 54)
        have A2 := hide (((unhide A1).below hb1).below hba)
        have O2 := hide (((unhide HO).below hb1).below hba)
        have B2 := hide (((unhide B1).trans (hb1.mono (unhide B1).size)).trans (hba.mono (Nat.le_trans (unhide B1).size hb1.size)))
        have Q2 := hide (BF.new w1 #[.int .i64 1, .int .i64 id, .int .i64 (k : Int), .int .i64 tm, .int .i64 0, .int .i64 0, .int .i64 0, .bool false, .slice none 0 0] 54)
        have lq : Hid (w.heap.size < Q) := by show _ < _; rw [hQ]; exact ((unhide A1).below hb1).lt
        have nqr : Hid ((Value.slice av1 q cv1).ownBlock ≠ some Q) := fun e => by have := ((unhide HO).row.lt Q e).2; have := hb1.size; omega
        have nqe : Hid (∀ p ∈ L, (sl p).ownBlock ≠ some Q) := fun p hp e => by have := (((unhide HO).ent p hp).lt Q e).2; have := hb1.size; omega
        have LT : Hid (∀ p ∈ L, ∀ j, (sl p).ownBlock = some j → j < wr.heap.size) := fun p hp j hj => (((unhide HO).ent p hp).lt j hj).2
        have LV : Hid (∀ j, (Value.slice av1 q cv1).ownBlock = some j → j < wr.heap.size) := fun j hj => ((unhide HO).row.lt j hj).2
        rw [← hQ] at Q2
        have HQQ := hide hQ
        clear hb1 hba A1 HO B1 ka hQ
        have ka2 := (unhide A2).S
        have kq2 := (unhide Q2).S
        go_upto_region 7 with fail
        rw [← unhide HQQ]
        clear HQQ kq2
        generalize w1.alloc (.cells #[.int .i64 1, .int .i64 id, .int .i64 (k : Int), .int .i64 tm, .int .i64 0, .int .i64 0, .int .i64 0, .bool false, .slice none 0 0] 54) = w2 at A2 O2 B2 Q2 ka2 ⊢
        have Ad := hide (unhide A2).drew
        have Qd := hide (unhide Q2).drew
        have Od := hide ((unhide O2).below (Below.refl _ _).drew)
        have Bd := hide (unhide B2).drew
        clear A2 O2 B2 Q2
        go_wp2_with fail
        refine wp_region_held_drew (S := fun w' => ∀ o, w'.cell? ⟨w.heap.size, o, none⟩ = (#[.int .i64 id, .int .i64 (nd : Int), .int .i64 tm, .int .i64 vt, .int .i64 ro, .bool up, .slice a n cap, .int .i64 (c : Int), .int .i64 el, .int .i64 wt, .slice av nv cv, .slice ax nx cx, .slice ag ng cg] : Array Value)[o]?) (by kernel_rfl) ka2 (fun hHeld => ?_)
        generalize w2.drew = u0 at Ad Qd Od Bd hHeld ⊢
        refine wtk (i := 0) (oi := { dst := some 18, op := .load 29 (.tmp 1), type := 29, pos := "l08_raft.go:177", after := #[], guard := none }) (v := ?_) rfl (Or.inl ⟨by rfl, ?_⟩) (by assumption) ?_
        rotate_left 1
        · (intro w' hSw; (try dsimp only at hSw); go_simp; try with_reducible rfl)
        try simp only [Act.put, qqA, qqB, qqC]
        refine wtk (i := 2) (oi := { dst := some 20, op := .load 29 (.tmp 1), type := 29, pos := "l08_raft.go:177", after := #[], guard := none }) (v := ?_) rfl (Or.inl ⟨by rfl, ?_⟩) (by assumption) ?_
        rotate_left 1
        · (intro w' hSw; (try dsimp only at hSw); go_simp; try with_reducible rfl)
        try simp only [Act.put, qqA, qqB, qqC]
        refine wtk (i := 3) (oi := { dst := some 21, op := .load 29 (.tmp 1), type := 29, pos := "l08_raft.go:177", after := #[], guard := none }) (v := ?_) rfl (Or.inl ⟨by rfl, ?_⟩) (by assumption) ?_
        rotate_left 1
        · (intro w' hSw; (try dsimp only at hSw); go_simp; try with_reducible rfl)
        try simp only [Act.put, qqA, qqB, qqC]
        refine wpAnyH_ready (rs := [1]) (by kernel_rfl) (by simp) ?_
        refine AllReadyH.cons (o := { dst := some 19, op := .call { callee := .value (.func 43), args := #[.tmp 18], argTypes := #[29] }, type := 3, pos := "l08_raft.go:177", after := #[{ on := 0, ground := .data }], guard := none }) rfl (fun K hK => ?_) AllReadyH.nil
        go_simp
        refine (ilast id (nd : Int) tm vt ro (c : Int) el wt up a cap n av cv nv ax cx nx ag cg ng _).mono ?_
        rintro e u1 ⟨rfl, hb⟩
        have A5 := hide ((unhide Ad).below hb)
        have Q5 := hide ((unhide Qd).below hb)
        have O5 := hide ((unhide Od).below hb)
        have B5 := hide ((unhide Bd).trans (hb.mono (unhide Bd).size))
        clear hb Ad Qd Od Bd
        go_wp2_with fail
        refine hK.out _ _ ?_ (fun hHeld1 => ?_)
        · exact (unhide A5).S
        clear hK K
        try simp only [Act.put, qqA, qqB, qqC]
        refine wtk (i := 6) (oi := { dst := some 24, op := .fieldAddr 54 (.tmp 5) 4, type := 0, pos := "l08_raft.go:177", after := #[{ on := 0, ground := .phase }, { on := 1, ground := .phase }, { on := 2, ground := .textOnly Go.Departure.lateStores }, { on := 3, ground := .textOnly Go.Departure.lateStores }, { on := 4, ground := .textOnly Go.Departure.lateStoresUnsure }, { on := 5, ground := .textOnly Go.Departure.lateStoresUnsure }], guard := none }) (v := ?_) rfl (Or.inl ⟨by rfl, ?_⟩) (by assumption) ?_
        rotate_left 1
        · (intro w' hSw; (try dsimp only at hSw); go_simp; try with_reducible rfl)
        try simp only [Act.put, qqA, qqB, qqC]
        refine wpAnyH_ready (rs := [4]) (by kernel_rfl) (by simp) ?_
        refine AllReadyH.cons (o := { dst := some 22, op := .call { callee := .value (.func 43), args := #[.tmp 21], argTypes := #[29] }, type := 3, pos := "l08_raft.go:177", after := #[{ on := 3, ground := .data }, { on := 1, ground := .chain }], guard := none }) rfl (fun K hK => ?_) AllReadyH.nil
        go_simp
        refine (ilast id (nd : Int) tm vt ro (c : Int) el wt up a cap n av cv nv ax cx nx ag cg ng _).mono ?_
        rintro e u2 ⟨rfl, hb⟩
        have A6 := hide ((unhide A5).below hb)
        have Q6 := hide ((unhide Q5).below hb)
        have O6 := hide ((unhide O5).below hb)
        have B6 := hide ((unhide B5).trans (hb.mono (unhide B5).size))
        clear hb A5 Q5 O5 B5
        go_wp2_with fail
        refine hK.out _ _ ?_ (fun hHeld4 => ?_)
        · exact (unhide A6).S
        clear hK K
        try simp only [Act.put, qqA, qqB, qqC]
        refine wpAnyH_ready (rs := [5]) (by kernel_rfl) (by simp) ?_
        refine AllReadyH.cons (o := { dst := some 23, op := .call { callee := .value (.func 65), args := #[.tmp 20, .tmp 22], argTypes := #[29, 3] }, type := 3, pos := "l08_raft.go:177", after := #[{ on := 2, ground := .data }, { on := 4, ground := .data }, { on := 4, ground := .chain }], guard := none }) rfl (fun K hK => ?_) AllReadyH.nil
        go_simp
        refine (itermat id (nd : Int) tm vt ro (c : Int) el wt up a cap n av cv nv ax cx nx ag cg ng l HN hn n (Nat.le_refl _) TT HT _ ((unhide HR).below (unhide B6))).mono ?_
        rintro e u3 ⟨rfl, hb⟩
        have A7 := hide ((unhide A6).below hb)
        have Q7 := hide ((unhide Q6).below hb)
        have O7 := hide ((unhide O6).below hb)
        have B7 := hide ((unhide B6).trans (hb.mono (unhide B6).size))
        clear hb A6 Q6 O6 B6
        go_wp2_with fail
        refine hK.out _ _ ?_ (fun hHeld5 => ?_)
        · exact (unhide A7).S
        clear hK K
        try simp only [Act.put, qqA, qqB, qqC]
        refine wpAnyH_ready (rs := [7]) (by kernel_rfl) (by simp) ?_
        refine AllReadyH.cons (o := { dst := none, op := .store 3 (.tmp 24) (.tmp 19), type := 0, pos := "l08_raft.go:177", after := #[{ on := 6, ground := .data }, { on := 1, ground := .data }, { on := 5, ground := .chain }, { on := 0, ground := .phase }, { on := 1, ground := .phase }, { on := 2, ground := .textOnly Go.Departure.lateStores }, { on := 3, ground := .textOnly Go.Departure.lateStores }, { on := 4, ground := .textOnly Go.Departure.lateStoresUnsure }, { on := 5, ground := .textOnly Go.Departure.lateStoresUnsure }], guard := none }) rfl (fun K hK => ?_) AllReadyH.nil
        have kq := (unhide Q7).S
        have kqf := (unhide Q7).F
        obtain ⟨u4, hv⟩ : ∃ u4, u4 = u3.setCell ⟨Q, 4, none⟩ (.int .i64 (n : Int)) := ⟨_, rfl⟩
        have Q8 : Hid (BF Q #[.int .i64 1, .int .i64 id, .int .i64 (k : Int), .int .i64 tm, .int .i64 (n : Int), .int .i64 0, .int .i64 0, .bool false, .slice none 0 0] u4) := by rw [hv]; exact (unhide Q7).set 4 (by simp) _
        have hf : ∀ k, k ≠ Q → u4.heap[k]? = u3.heap[k]? := fun k hk => by rw [hv]; exact Below.heap_setCell _ _ _ _ hk
        have hs : u3.heap.size ≤ u4.heap.size := by rw [hv]; simp
        have A8 := hide ((unhide A7).keep hs (hf _ (by have := unhide lq; omega)))
        have B8 : Hid (Below w.heap.size w u4) := by rw [hv]; exact Below.setCell (unhide B7) (by show w.heap.size ≤ Q; have := unhide lq; omega) _
        have O8 : Hid (MOwn u4 (w.heap.size + 1) (.slice av1 q cv1) L) := ⟨own_farJ (unhide O7).row hf (fun h => unhide nqr (by exact h)), fun p hp => own_farJ ((unhide O7).ent p hp) hf (fun h => unhide nqe p hp h), (unhide O7).apart, (unhide O7).off⟩
        go_simp
        rw [← hv]
        refine hK.out _ _ ?_ (fun hHeld7 => ?_)
        · exact (unhide A8).S
        clear hK K
        try simp only [Act.put, qqA, qqB, qqC]
        clear hv kq kqf hf hs A7 Q7 B7 O7
        refine wtk (i := 8) (oi := { dst := some 25, op := .fieldAddr 54 (.tmp 5) 5, type := 0, pos := "l08_raft.go:177", after := #[{ on := 0, ground := .phase }, { on := 1, ground := .phase }, { on := 2, ground := .phase }, { on := 3, ground := .phase }, { on := 4, ground := .phase }, { on := 5, ground := .phase }, { on := 6, ground := .phase }, { on := 7, ground := .phase }], guard := none }) (v := ?_) rfl (Or.inl ⟨by rfl, ?_⟩) (by assumption) ?_
        rotate_left 1
        · (intro w' hSw; (try dsimp only at hSw); go_simp; try with_reducible rfl)
        try simp only [Act.put, qqA, qqB, qqC]
        refine wpAnyH_ready (rs := [9]) (by kernel_rfl) (by simp) ?_
        refine AllReadyH.cons (o := { dst := none, op := .store 3 (.tmp 25) (.tmp 23), type := 0, pos := "l08_raft.go:177", after := #[{ on := 8, ground := .data }, { on := 5, ground := .data }, { on := 7, ground := .chain }, { on := 0, ground := .phase }, { on := 1, ground := .phase }, { on := 2, ground := .phase }, { on := 3, ground := .phase }, { on := 4, ground := .phase }, { on := 5, ground := .phase }, { on := 6, ground := .phase }, { on := 7, ground := .phase }], guard := none }) rfl (fun K hK => ?_) AllReadyH.nil
        have kq := (unhide Q8).S
        have kqf := (unhide Q8).F
        obtain ⟨u5, hv⟩ : ∃ u5, u5 = u4.setCell ⟨Q, 5, none⟩ (.int .i64 TT) := ⟨_, rfl⟩
        have Q9 : Hid (BF Q #[.int .i64 1, .int .i64 id, .int .i64 (k : Int), .int .i64 tm, .int .i64 (n : Int), .int .i64 TT, .int .i64 0, .bool false, .slice none 0 0] u5) := by rw [hv]; exact (unhide Q8).set 5 (by simp) _
        have hf : ∀ k, k ≠ Q → u5.heap[k]? = u4.heap[k]? := fun k hk => by rw [hv]; exact Below.heap_setCell _ _ _ _ hk
        have hs : u4.heap.size ≤ u5.heap.size := by rw [hv]; simp
        have A9 := hide ((unhide A8).keep hs (hf _ (by have := unhide lq; omega)))
        have B9 : Hid (Below w.heap.size w u5) := by rw [hv]; exact Below.setCell (unhide B8) (by show w.heap.size ≤ Q; have := unhide lq; omega) _
        have O9 : Hid (MOwn u5 (w.heap.size + 1) (.slice av1 q cv1) L) := ⟨own_farJ (unhide O8).row hf (fun h => unhide nqr (by exact h)), fun p hp => own_farJ ((unhide O8).ent p hp) hf (fun h => unhide nqe p hp h), (unhide O8).apart, (unhide O8).off⟩
        go_simp
        rw [← hv]
        refine hK.out _ _ ?_ (fun hHeld9 => ?_)
        · exact (unhide A9).S
        clear hK K
        try simp only [Act.put, qqA, qqB, qqC]
        clear hv kq kqf hf hs A8 Q8 B8 O8
        refine wpAnyH_done (by kernel_rfl) ?_ _
        clear ka2 hHeld
        obtain ⟨p, hp⟩ : ∃ p : MgA, p = (askM id tm n TT k, none, 0) := ⟨_, rfl⟩
        have PC : Hid (cM p = [.int .i64 1, .int .i64 id, .int .i64 (k : Int), .int .i64 tm, .int .i64 (n : Int), .int .i64 TT, .int .i64 0, .bool false, .slice none 0 0]) := by show _ = _; rw [hp]; rfl
        have P1 : Hid (p.1 = askM id tm n TT k) := by show _ = _; rw [hp]
        have PS : Hid (sl p = .slice none 0 0 ∧ p.1.es = []) := by show _ ∧ _; rw [hp]; exact ⟨rfl, rfl⟩
        have zA := (unhide A9).lt
        have ka := (unhide A9).S
        have kq := (unhide Q9).S
        have h3 : Hid (Below u5.heap.size u5 (u5.alloc (.cells #[.int .i64 1, .int .i64 id, .int .i64 (k : Int), .int .i64 tm, .int .i64 (n : Int), .int .i64 TT, .int .i64 0, .bool false, .slice none 0 0] 54))) := Go.Joins.below_alloc1 u5 (.cells #[.int .i64 1, .int .i64 id, .int .i64 (k : Int), .int .i64 tm, .int .i64 (n : Int), .int .i64 TT, .int .i64 0, .bool false, .slice none 0 0] 54)
        have hrow := ((unhide O9).below (unhide h3)).row
        rw [unhide HQ] at hrow
        have hq5 : q ≤ 5 := by omega
        clear hp
        go_wp2_with (at_builtin; refine wpList_append_lies _ rfl (.tmp 26) (.tmp 28) 30 rfl (w.heap.size + 1) 54 i0 (.agg #[.int .i64 0, .int .i64 0, .int .i64 0, .int .i64 0, .int .i64 0, .int .i64 0, .int .i64 0, .bool false, .slice none 0 0]) 9 88 Try.underlying30 hi hz0 hz1 hz2 rfl (by decide) _ q (cMs L) rfl hrow ⟨u5.heap.size, 0, none⟩ 1 1 [.int .i64 1, .int .i64 id, .int .i64 (k : Int), .int .i64 tm, .int .i64 (n : Int), .int .i64 TT, .int .i64 0, .bool false, .slice none 0 0] rfl rfl (by exact news_new u5 [.int .i64 1, .int .i64 id, .int .i64 (k : Int), .int .i64 tm, .int .i64 (n : Int), .int .i64 TT, .int .i64 0, .bool false, .slice none 0 0] 54) (by rw [← unhide PC]; exact cM_one p) (by decide) (by unfold maxLen; omega) (by omega) (by simp; omega) _ rfl ?_; intro g7 c7 w7 hown7 hgrow7 hat7 hlt7)
        have HM7 : Hid (MOwn w7 (w.heap.size + 1) (.slice (some ⟨g7, 0, none⟩) (q + 1) c7) (L ++ [p])) := by
          have hs := MOwn.snoc (w0 := wr) (p := p) (g := g7) (cap := c7) ((unhide O9).below (unhide h3)) (unhide LT) (unhide LV) (by rw [(unhide PS).1, (unhide PS).2]; exact World.ownsRow_nil _ _ _ _) (fun j hj => by rw [(unhide PS).1] at hj; cases hj) hgrow7 (by rw [unhide HQ, unhide PC]; exact hown7) hat7
          rw [unhide HQ] at hs
          exact hs
        have B7 := hide ((unhide B9).trans ((unhide h3).mono (unhide B9).size))
        have B8 := hide ((unhide B7).grown hgrow7 (unhide B7).size (fun j hj => by have := (hrow.lt j hj).1; omega))
        have A8 := hide (((unhide A9).below (unhide h3)).grown hgrow7 (fun hj => by have := (hrow.lt _ hj).1; omega))
        clear hown7 hgrow7 hat7 hlt7 hrow A9 B9 O9 Q9 LT LV h3 ka kq
        go_wp2_with fail
        go_roundw
        case rel => exact ⟨k + 1, q + 1, _, L ++ [p], by omega, by go_num, rfl, by omega, by show _ = _; rw [List.length_append, unhide HQ]; rfl, by show _ = _; rw [List.map_append, ← unhide HL2, ← unhide P1]; rfl, HM7, A8, B8⟩
        case measure => simp [intOf]; omega
    · obtain rfl : k = nd := by omega
      obtain ⟨av1, cv1, rfl, -⟩ := ownZ_rowV (unhide HO).row
      go_wp2_with fail
      go_ret
      exact ⟨_, L, rfl, unhide HL, (unhide HO).low (Nat.le_succ _), unhide B1⟩
end Go.Proofs.Ytjlajpnhcphngaa
