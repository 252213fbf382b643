/- States held against each other: what the specification answers. -/
import Derived.Test.YtkpipnccjiahjaaSamM
import Derived.Test.YtkpipnccjiahjaaSteS
import Derived.Test.YtkpipnccjiahjaaComS
namespace Go.Proofs.Ytkpipnccjiahjaa
open Go.ChangeShapes Go.WideShapes Go.ChangeAt Go.RowKit
set_option linter.unusedVariables false
set_option maxHeartbeats 4000000 in
set_option maxRecDepth 100000 in
theorem ssame (tm vt : Int) (a : Option Addr) (cap n : Nat) (l : List Ent) (HN : Hid (l.length = n)) (hn : n ≤ 1048576) (HSZ : Hid (∀ k (h : k < l.length), l[k].2.size ≤ 1048576)) (tm2 vt2 : Int) (a2 : Option Addr) (cap2 n2 : Nat) (m : List Ent) (HN2 : Hid (m.length = n2)) (hn2 : n2 ≤ 1048576) (HSZ2 : Hid (∀ k (h : k < m.length), m[k].2.size ≤ 1048576)) (R : Bool) (c : Int) (HIS : Hid (SameIs tm vt l tm2 vt2 m R c)) (w : World) (hr : RowV w a (cE l)) (hr2 : RowV w a2 (cE m)) :
    Calls Try.prog 5 #[.agg #[.int .i64 tm, .int .i64 vt, .slice a n cap], .agg #[.int .i64 tm2, .int .i64 vt2, .slice a2 n2 cap2]] w fun e w' => e = .returned (.tuple #[.bool R, .int .i64 c]) ∧ Below w.heap.size w w' := by
  have B0 := hide (Go.Joins.below_alloc2 w (.cells #[.int .i64 tm, .int .i64 vt, .slice a n cap] 30) (.cells #[.int .i64 tm2, .int .i64 vt2, .slice a2 n2 cap2] 30))
  have A0 := hide ((BF.new w #[.int .i64 tm, .int .i64 vt, .slice a n cap] 30).alloc (.cells #[.int .i64 tm2, .int .i64 vt2, .slice a2 n2 cap2] 30))
  have C0 := hide (BF.new (w.alloc (.cells #[.int .i64 tm, .int .i64 vt, .slice a n cap] 30)) #[.int .i64 tm2, .int .i64 vt2, .slice a2 n2 cap2] 30)
  rw [show (w.alloc (.cells #[.int .i64 tm, .int .i64 vt, .slice a n cap] 30)).heap.size = w.heap.size + 1 from by simp] at C0
  have HRW1 := hide (hr.below (unhide B0))
  have HRW2 := hide (hr2.below (unhide B0))
  clear hr hr2
  rcases unhide HIS with ⟨k1, k2, hR, rfl⟩ | ⟨k1 | ⟨k1, k2⟩, rfl, rfl⟩
  · have HK1 := hide k1.symm
    have HK2 := hide k2.symm
    have HP1 := hide (state_parts k1).2.2.1
    have HP2 := hide (state_parts k2).2.2.1
    have HR := hide hR
    clear HIS k1 k2 hR
    go_enter Try.func5, Try.ntmps5
    go_wp2_with fail
    refine (sstateok tm vt a cap n l HN hn HSZ true HK1 _ (unhide HRW1)).mono ?_
    rintro e w1 ⟨rfl, hb⟩
    have B1 := hide ((unhide B0).trans (hb.mono (unhide B0).size))
    have A1 := hide ((unhide A0).below hb)
    have C1 := hide ((unhide C0).below hb)
    replace HRW1 := hide ((unhide HRW1).below hb)
    replace HRW2 := hide ((unhide HRW2).below hb)
    clear hb B0 A0 C0
    have ka1 := (unhide A1).S
    have kc1 := (unhide C1).S
    go_wp2_with fail
    refine (sstateok tm2 vt2 a2 cap2 n2 m HN2 hn2 HSZ2 true HK2 _ (unhide HRW2)).mono ?_
    rintro e w2 ⟨rfl, hb⟩
    have B2 := hide ((unhide B1).trans (hb.mono (unhide B1).size))
    have A2 := hide ((unhide A1).below hb)
    have C2 := hide ((unhide C1).below hb)
    replace HRW1 := hide ((unhide HRW1).below hb)
    replace HRW2 := hide ((unhide HRW2).below hb)
    clear hb B1 A1 C1
    have ka2 := (unhide A2).S
    have kc2 := (unhide C2).S
    have hp1 : n ≤ 60 := by have := unhide HP1; rw [unhide HN] at this; exact this
    have hp2 : n2 ≤ 60 := by have := unhide HP2; rw [unhide HN2] at this; exact this
    clear HP1 HP2
    by_cases h1 : tm = tm2
    · by_cases h2 : vt = vt2
      · by_cases h3 : n = n2
        · subst h1 h2 h3
          have HR1 : Hid (R = decide ((comN l m : Int) = (n : Int))) := by
            show _ = _
            rw [(unhide HR).trans sm4, Bool.eq_iff_iff, decide_eq_true_iff, decide_eq_true_iff, ← comN_eq l m (by rw [unhide HN, unhide HN2]), unhide HN]; omega
          have k2 : (∀ o, w2.cell? ⟨w.heap.size, o, none⟩ = (#[.int .i64 tm, .int .i64 vt, .slice a n cap] : Array Value)[o]?) ∧ (∀ o, w2.cell? ⟨w.heap.size + 1, o, none⟩ = (#[.int .i64 tm, .int .i64 vt, .slice a2 n cap2] : Array Value)[o]?) := ⟨(unhide A2).S, (unhide C2).S⟩
          obtain ⟨C, hC⟩ : ∃ C : Bool, ((comN l m : Int) == (n : Int)) = C := ⟨_, rfl⟩
          obtain rfl : R = C := by rw [unhide HR1, ← hC]; rfl
          go_wp2_with fail
          refine wp_region_held_drew (S := fun w' => (∀ o, w'.cell? ⟨w.heap.size, o, none⟩ = (#[.int .i64 tm, .int .i64 vt, .slice a n cap] : Array Value)[o]?) ∧ (∀ o, w'.cell? ⟨w.heap.size + 1, o, none⟩ = (#[.int .i64 tm, .int .i64 vt, .slice a2 n cap2] : Array Value)[o]?)) (by kernel_rfl) k2 (fun hHeld => ?_)
          refine wpAnyH_take (i := 0) (oi := { dst := some 14, op := .fieldAddr 30 (.tmp 2) 0, type := 0, pos := "l07_store.go:184", after := #[], guard := none }) (v := ?_) rfl (by kernel_rfl) (by kernel_rfl) (by kernel_rfl) (fun _ _ _ h => h) (Or.inl ⟨by rfl, ?_⟩) (by assumption) ?_
          rotate_left 1
          · (intro w' hSw; (try dsimp only at hSw); go_simp; try with_reducible rfl)
          try simp only [Act.put, List.setIfInBounds_toArray, List.set_cons_zero, List.set_cons_succ]
          refine wpAnyH_take (i := 1) (oi := { dst := some 15, op := .load 3 (.tmp 14), type := 3, pos := "l07_store.go:184", after := #[{ on := 0, ground := .data }], guard := none }) (v := ?_) rfl (by kernel_rfl) (by kernel_rfl) (by kernel_rfl) (fun _ _ _ h => h) (Or.inl ⟨by rfl, ?_⟩) (by assumption) ?_
          rotate_left 1
          · (intro w' hSw; (try dsimp only at hSw); go_simp; try with_reducible rfl)
          try simp only [Act.put, List.setIfInBounds_toArray, List.set_cons_zero, List.set_cons_succ]
          refine wpAnyH_take (i := 2) (oi := { dst := some 16, op := .fieldAddr 30 (.tmp 3) 0, type := 0, pos := "l07_store.go:184", after := #[], guard := none }) (v := ?_) rfl (by kernel_rfl) (by kernel_rfl) (by kernel_rfl) (fun _ _ _ h => h) (Or.inl ⟨by rfl, ?_⟩) (by assumption) ?_
          rotate_left 1
          · (intro w' hSw; (try dsimp only at hSw); go_simp; try with_reducible rfl)
          try simp only [Act.put, List.setIfInBounds_toArray, List.set_cons_zero, List.set_cons_succ]
          refine wpAnyH_take (i := 3) (oi := { dst := some 17, op := .load 3 (.tmp 16), type := 3, pos := "l07_store.go:184", after := #[{ on := 2, ground := .data }], guard := none }) (v := ?_) rfl (by kernel_rfl) (by kernel_rfl) (by kernel_rfl) (fun _ _ _ h => h) (Or.inl ⟨by rfl, ?_⟩) (by assumption) ?_
          rotate_left 1
          · (intro w' hSw; (try dsimp only at hSw); go_simp; try with_reducible rfl)
          try simp only [Act.put, List.setIfInBounds_toArray, List.set_cons_zero, List.set_cons_succ]
          refine wpAnyH_take (i := 4) (oi := { dst := some 18, op := .binOp .eql 3 (.tmp 15) (.tmp 17) 3, type := 4, pos := "l07_store.go:184", after := #[{ on := 1, ground := .data }, { on := 3, ground := .data }], guard := none }) (v := ?_) rfl (by kernel_rfl) (by kernel_rfl) (by kernel_rfl) (fun _ _ _ h => h) (Or.inl ⟨by rfl, ?_⟩) (by assumption) ?_
          rotate_left 1
          · (intro w' hSw; (try dsimp only at hSw); go_simp; try with_reducible rfl)
          try simp only [Act.put, List.setIfInBounds_toArray, List.set_cons_zero, List.set_cons_succ]
          refine wpAnyH_take (i := 5) (oi := { dst := some 19, op := .move (.tmp 18), type := 4, pos := "l07_store.go:184", after := #[{ on := 4, ground := .data }], guard := none }) (v := ?_) rfl (by kernel_rfl) (by kernel_rfl) (by kernel_rfl) (fun _ _ _ h => h) (Or.inl ⟨by rfl, ?_⟩) (by assumption) ?_
          rotate_left 1
          · (intro w' hSw; (try dsimp only at hSw); go_simp; try with_reducible rfl)
          try simp only [Act.put, List.setIfInBounds_toArray, List.set_cons_zero, List.set_cons_succ]
          refine wpAnyH_take (i := 6) (oi := { dst := some 20, op := .fieldAddr 30 (.tmp 2) 1, type := 0, pos := "l07_store.go:184", after := #[{ on := 5, ground := .guard }], guard := some (5, true) }) (v := ?_) rfl (by kernel_rfl) (by kernel_rfl) (by kernel_rfl) (fun _ _ _ h => h) (Or.inl ⟨by rfl, ?_⟩) (by assumption) ?_
          rotate_left 1
          · (intro w' hSw; (try dsimp only at hSw); go_simp; try with_reducible rfl)
          try simp only [Act.put, List.setIfInBounds_toArray, List.set_cons_zero, List.set_cons_succ]
          refine wpAnyH_take (i := 7) (oi := { dst := some 21, op := .load 3 (.tmp 20), type := 3, pos := "l07_store.go:184", after := #[{ on := 6, ground := .data }, { on := 5, ground := .guard }], guard := some (5, true) }) (v := ?_) rfl (by kernel_rfl) (by kernel_rfl) (by kernel_rfl) (fun _ _ _ h => h) (Or.inl ⟨by rfl, ?_⟩) (by assumption) ?_
          rotate_left 1
          · (intro w' hSw; (try dsimp only at hSw); go_simp; try with_reducible rfl)
          try simp only [Act.put, List.setIfInBounds_toArray, List.set_cons_zero, List.set_cons_succ]
          refine wpAnyH_take (i := 8) (oi := { dst := some 22, op := .fieldAddr 30 (.tmp 3) 1, type := 0, pos := "l07_store.go:184", after := #[{ on := 5, ground := .guard }], guard := some (5, true) }) (v := ?_) rfl (by kernel_rfl) (by kernel_rfl) (by kernel_rfl) (fun _ _ _ h => h) (Or.inl ⟨by rfl, ?_⟩) (by assumption) ?_
          rotate_left 1
          · (intro w' hSw; (try dsimp only at hSw); go_simp; try with_reducible rfl)
          try simp only [Act.put, List.setIfInBounds_toArray, List.set_cons_zero, List.set_cons_succ]
          refine wpAnyH_take (i := 9) (oi := { dst := some 23, op := .load 3 (.tmp 22), type := 3, pos := "l07_store.go:184", after := #[{ on := 8, ground := .data }, { on := 5, ground := .guard }], guard := some (5, true) }) (v := ?_) rfl (by kernel_rfl) (by kernel_rfl) (by kernel_rfl) (fun _ _ _ h => h) (Or.inl ⟨by rfl, ?_⟩) (by assumption) ?_
          rotate_left 1
          · (intro w' hSw; (try dsimp only at hSw); go_simp; try with_reducible rfl)
          try simp only [Act.put, List.setIfInBounds_toArray, List.set_cons_zero, List.set_cons_succ]
          refine wpAnyH_take (i := 10) (oi := { dst := some 24, op := .binOp .eql 3 (.tmp 21) (.tmp 23) 3, type := 4, pos := "l07_store.go:184", after := #[{ on := 7, ground := .data }, { on := 9, ground := .data }, { on := 5, ground := .guard }], guard := some (5, true) }) (v := ?_) rfl (by kernel_rfl) (by kernel_rfl) (by kernel_rfl) (fun _ _ _ h => h) (Or.inl ⟨by rfl, ?_⟩) (by assumption) ?_
          rotate_left 1
          · (intro w' hSw; (try dsimp only at hSw); go_simp; try with_reducible rfl)
          try simp only [Act.put, List.setIfInBounds_toArray, List.set_cons_zero, List.set_cons_succ]
          refine wpAnyH_take (i := 11) (oi := { dst := some 25, op := .pick (.tmp 19) (.tmp 24) (.const (.bool false)), type := 4, pos := "l07_store.go:184", after := #[{ on := 5, ground := .data }, { on := 10, ground := .data }], guard := none }) (v := ?_) rfl (by kernel_rfl) (by kernel_rfl) (by kernel_rfl) (fun _ _ _ h => h) (Or.inl ⟨by rfl, ?_⟩) (by assumption) ?_
          rotate_left 1
          · (intro w' hSw; (try dsimp only at hSw); go_simp; try with_reducible rfl)
          try simp only [Act.put, List.setIfInBounds_toArray, List.set_cons_zero, List.set_cons_succ]
          refine wpAnyH_take (i := 12) (oi := { dst := some 26, op := .move (.tmp 25), type := 4, pos := "l07_store.go:184", after := #[{ on := 11, ground := .data }, { on := 5, ground := .chain }], guard := none }) (v := ?_) rfl (by kernel_rfl) (by kernel_rfl) (by kernel_rfl) (fun _ _ _ h => h) (Or.inl ⟨by rfl, ?_⟩) (by assumption) ?_
          rotate_left 1
          · (intro w' hSw; (try dsimp only at hSw); go_simp; try with_reducible rfl)
          try simp only [Act.put, List.setIfInBounds_toArray, List.set_cons_zero, List.set_cons_succ]
          refine wpAnyH_take (i := 13) (oi := { dst := some 27, op := .fieldAddr 30 (.tmp 2) 2, type := 0, pos := "l07_store.go:184", after := #[{ on := 12, ground := .guard }], guard := some (12, true) }) (v := ?_) rfl (by kernel_rfl) (by kernel_rfl) (by kernel_rfl) (fun _ _ _ h => h) (Or.inl ⟨by rfl, ?_⟩) (by assumption) ?_
          rotate_left 1
          · (intro w' hSw; (try dsimp only at hSw); go_simp; try with_reducible rfl)
          try simp only [Act.put, List.setIfInBounds_toArray, List.set_cons_zero, List.set_cons_succ]
          refine wpAnyH_take (i := 14) (oi := { dst := some 28, op := .load 28 (.tmp 27), type := 28, pos := "l07_store.go:184", after := #[{ on := 13, ground := .data }, { on := 12, ground := .guard }], guard := some (12, true) }) (v := ?_) rfl (by kernel_rfl) (by kernel_rfl) (by kernel_rfl) (fun _ _ _ h => h) (Or.inl ⟨by rfl, ?_⟩) (by assumption) ?_
          rotate_left 1
          · (intro w' hSw; (try dsimp only at hSw); go_simp; try with_reducible rfl)
          try simp only [Act.put, List.setIfInBounds_toArray, List.set_cons_zero, List.set_cons_succ]
          refine wpAnyH_take (i := 15) (oi := { dst := some 29, op := .call { callee := .builtin Go.Builtin.len, args := #[.tmp 28], argTypes := #[28] }, type := 3, pos := "l07_store.go:184", after := #[{ on := 14, ground := .data }, { on := 12, ground := .guard }], guard := some (12, true) }) (v := ?_) rfl (by kernel_rfl) (by kernel_rfl) (by kernel_rfl) (fun _ _ _ h => h) (Or.inl ⟨by rfl, ?_⟩) (by assumption) ?_
          rotate_left 1
          · (intro w' hSw; (try dsimp only at hSw); go_simp; try with_reducible rfl)
          try simp only [Act.put, List.setIfInBounds_toArray, List.set_cons_zero, List.set_cons_succ]
          refine wpAnyH_take (i := 16) (oi := { dst := some 30, op := .fieldAddr 30 (.tmp 3) 2, type := 0, pos := "l07_store.go:184", after := #[{ on := 12, ground := .guard }], guard := some (12, true) }) (v := ?_) rfl (by kernel_rfl) (by kernel_rfl) (by kernel_rfl) (fun _ _ _ h => h) (Or.inl ⟨by rfl, ?_⟩) (by assumption) ?_
          rotate_left 1
          · (intro w' hSw; (try dsimp only at hSw); go_simp; try with_reducible rfl)
          try simp only [Act.put, List.setIfInBounds_toArray, List.set_cons_zero, List.set_cons_succ]
          refine wpAnyH_take (i := 17) (oi := { dst := some 31, op := .load 28 (.tmp 30), type := 28, pos := "l07_store.go:184", after := #[{ on := 16, ground := .data }, { on := 12, ground := .guard }], guard := some (12, true) }) (v := ?_) rfl (by kernel_rfl) (by kernel_rfl) (by kernel_rfl) (fun _ _ _ h => h) (Or.inl ⟨by rfl, ?_⟩) (by assumption) ?_
          rotate_left 1
          · (intro w' hSw; (try dsimp only at hSw); go_simp; try with_reducible rfl)
          try simp only [Act.put, List.setIfInBounds_toArray, List.set_cons_zero, List.set_cons_succ]
          refine wpAnyH_take (i := 18) (oi := { dst := some 32, op := .call { callee := .builtin Go.Builtin.len, args := #[.tmp 31], argTypes := #[28] }, type := 3, pos := "l07_store.go:184", after := #[{ on := 17, ground := .data }, { on := 12, ground := .guard }], guard := some (12, true) }) (v := ?_) rfl (by kernel_rfl) (by kernel_rfl) (by kernel_rfl) (fun _ _ _ h => h) (Or.inl ⟨by rfl, ?_⟩) (by assumption) ?_
          rotate_left 1
          · (intro w' hSw; (try dsimp only at hSw); go_simp; try with_reducible rfl)
          try simp only [Act.put, List.setIfInBounds_toArray, List.set_cons_zero, List.set_cons_succ]
          refine wpAnyH_take (i := 19) (oi := { dst := some 33, op := .binOp .eql 3 (.tmp 29) (.tmp 32) 3, type := 4, pos := "l07_store.go:184", after := #[{ on := 15, ground := .data }, { on := 18, ground := .data }, { on := 12, ground := .guard }], guard := some (12, true) }) (v := ?_) rfl (by kernel_rfl) (by kernel_rfl) (by kernel_rfl) (fun _ _ _ h => h) (Or.inl ⟨by rfl, ?_⟩) (by assumption) ?_
          rotate_left 1
          · (intro w' hSw; (try dsimp only at hSw); go_simp; try with_reducible rfl)
          try simp only [Act.put, List.setIfInBounds_toArray, List.set_cons_zero, List.set_cons_succ]
          refine wpAnyH_take (i := 20) (oi := { dst := some 34, op := .pick (.tmp 26) (.tmp 33) (.const (.bool false)), type := 4, pos := "l07_store.go:184", after := #[{ on := 12, ground := .data }, { on := 19, ground := .data }], guard := none }) (v := ?_) rfl (by kernel_rfl) (by kernel_rfl) (by kernel_rfl) (fun _ _ _ h => h) (Or.inl ⟨by rfl, ?_⟩) (by assumption) ?_
          rotate_left 1
          · (intro w' hSw; (try dsimp only at hSw); go_simp; try with_reducible rfl)
          try simp only [Act.put, List.setIfInBounds_toArray, List.set_cons_zero, List.set_cons_succ]
          refine wpAnyH_take (i := 21) (oi := { dst := some 35, op := .move (.tmp 34), type := 4, pos := "l07_store.go:184", after := #[{ on := 20, ground := .data }, { on := 12, ground := .chain }], guard := none }) (v := ?_) rfl (by kernel_rfl) (by kernel_rfl) (by kernel_rfl) (fun _ _ _ h => h) (Or.inl ⟨by rfl, ?_⟩) (by assumption) ?_
          rotate_left 1
          · (intro w' hSw; (try dsimp only at hSw); go_simp; try with_reducible rfl)
          try simp only [Act.put, List.setIfInBounds_toArray, List.set_cons_zero, List.set_cons_succ]
          refine wpAnyH_take (i := 22) (oi := { dst := some 36, op := .fieldAddr 30 (.tmp 2) 2, type := 0, pos := "l07_store.go:184", after := #[{ on := 21, ground := .guard }], guard := some (21, true) }) (v := ?_) rfl (by kernel_rfl) (by kernel_rfl) (by kernel_rfl) (fun _ _ _ h => h) (Or.inl ⟨by rfl, ?_⟩) (by assumption) ?_
          rotate_left 1
          · (intro w' hSw; (try dsimp only at hSw); go_simp; try with_reducible rfl)
          try simp only [Act.put, List.setIfInBounds_toArray, List.set_cons_zero, List.set_cons_succ]
          refine wpAnyH_take (i := 23) (oi := { dst := some 37, op := .load 28 (.tmp 36), type := 28, pos := "l07_store.go:184", after := #[{ on := 22, ground := .data }, { on := 21, ground := .guard }], guard := some (21, true) }) (v := ?_) rfl (by kernel_rfl) (by kernel_rfl) (by kernel_rfl) (fun _ _ _ h => h) (Or.inl ⟨by rfl, ?_⟩) (by assumption) ?_
          rotate_left 1
          · (intro w' hSw; (try dsimp only at hSw); go_simp; try with_reducible rfl)
          try simp only [Act.put, List.setIfInBounds_toArray, List.set_cons_zero, List.set_cons_succ]
          refine wpAnyH_take (i := 24) (oi := { dst := some 38, op := .fieldAddr 30 (.tmp 3) 2, type := 0, pos := "l07_store.go:184", after := #[{ on := 21, ground := .guard }], guard := some (21, true) }) (v := ?_) rfl (by kernel_rfl) (by kernel_rfl) (by kernel_rfl) (fun _ _ _ h => h) (Or.inl ⟨by rfl, ?_⟩) (by assumption) ?_
          rotate_left 1
          · (intro w' hSw; (try dsimp only at hSw); go_simp; try with_reducible rfl)
          try simp only [Act.put, List.setIfInBounds_toArray, List.set_cons_zero, List.set_cons_succ]
          refine wpAnyH_take (i := 25) (oi := { dst := some 39, op := .load 28 (.tmp 38), type := 28, pos := "l07_store.go:184", after := #[{ on := 24, ground := .data }, { on := 21, ground := .guard }], guard := some (21, true) }) (v := ?_) rfl (by kernel_rfl) (by kernel_rfl) (by kernel_rfl) (fun _ _ _ h => h) (Or.inl ⟨by rfl, ?_⟩) (by assumption) ?_
          rotate_left 1
          · (intro w' hSw; (try dsimp only at hSw); go_simp; try with_reducible rfl)
          try simp only [Act.put, List.setIfInBounds_toArray, List.set_cons_zero, List.set_cons_succ]
          refine wpAnyH_take (i := 27) (oi := { dst := some 41, op := .fieldAddr 30 (.tmp 2) 2, type := 0, pos := "l07_store.go:184", after := #[{ on := 21, ground := .guard }], guard := some (21, true) }) (v := ?_) rfl (by kernel_rfl) (by kernel_rfl) (by kernel_rfl) (fun _ _ _ h => h) (Or.inl ⟨by rfl, ?_⟩) (by assumption) ?_
          rotate_left 1
          · (intro w' hSw; (try dsimp only at hSw); go_simp; try with_reducible rfl)
          try simp only [Act.put, List.setIfInBounds_toArray, List.set_cons_zero, List.set_cons_succ]
          refine wpAnyH_take (i := 28) (oi := { dst := some 42, op := .load 28 (.tmp 41), type := 28, pos := "l07_store.go:184", after := #[{ on := 27, ground := .data }, { on := 21, ground := .guard }], guard := some (21, true) }) (v := ?_) rfl (by kernel_rfl) (by kernel_rfl) (by kernel_rfl) (fun _ _ _ h => h) (Or.inl ⟨by rfl, ?_⟩) (by assumption) ?_
          rotate_left 1
          · (intro w' hSw; (try dsimp only at hSw); go_simp; try with_reducible rfl)
          try simp only [Act.put, List.setIfInBounds_toArray, List.set_cons_zero, List.set_cons_succ]
          refine wpAnyH_take (i := 29) (oi := { dst := some 43, op := .call { callee := .builtin Go.Builtin.len, args := #[.tmp 42], argTypes := #[28] }, type := 3, pos := "l07_store.go:184", after := #[{ on := 28, ground := .data }, { on := 21, ground := .guard }], guard := some (21, true) }) (v := ?_) rfl (by kernel_rfl) (by kernel_rfl) (by kernel_rfl) (fun _ _ _ h => h) (Or.inl ⟨by rfl, ?_⟩) (by assumption) ?_
          rotate_left 1
          · (intro w' hSw; (try dsimp only at hSw); go_simp; try with_reducible rfl)
          try simp only [Act.put, List.setIfInBounds_toArray, List.set_cons_zero, List.set_cons_succ]
          refine wpAnyH_ready (rs := [26]) (by kernel_rfl) (by simp) ?_
          refine AllReadyH.cons (o := { dst := some 40, op := .call { callee := .value (.func 11), args := #[.tmp 37, .tmp 39], argTypes := #[28, 28] }, type := 3, pos := "l07_store.go:184", after := #[{ on := 23, ground := .data }, { on := 25, ground := .data }, { on := 21, ground := .chain }, { on := 21, ground := .guard }], guard := some (21, true) }) rfl (fun K hK => ?_) AllReadyH.nil
          go_simp
          refine (scommon a a2 cap cap2 n n l m HN HN2 hp1 hp2 (comN l m) rfl _ ((unhide HRW1).below (Below.refl _ _).drew) ((unhide HRW2).below (Below.refl _ _).drew)).mono ?_
          rintro e w3 ⟨rfl, hb⟩
          have k3 : (∀ o, w3.cell? ⟨w.heap.size, o, none⟩ = (#[.int .i64 tm, .int .i64 vt, .slice a n cap] : Array Value)[o]?) ∧ (∀ o, w3.cell? ⟨w.heap.size + 1, o, none⟩ = (#[.int .i64 tm, .int .i64 vt, .slice a2 n cap2] : Array Value)[o]?) := by
            have h := below_undrew hb
            exact ⟨fun o => (h.cell (p := ⟨w.heap.size, o, none⟩) (unhide A2).lt).trans (k2.1 o), fun o => (h.cell (p := ⟨w.heap.size + 1, o, none⟩) (unhide C2).lt).trans (k2.2 o)⟩
          have B3 := hide ((unhide B2).trans ((below_undrew hb).mono (unhide B2).size))
          clear hb
          go_wp2_with fail
          refine hK.out _ _ ?_ (fun hHeld26 => ?_)
          · exact k3
          clear hK K
          try simp only [Act.put, List.setIfInBounds_toArray, List.set_cons_zero, List.set_cons_succ]
          refine wpAnyH_take (i := 30) (oi := { dst := some 44, op := .binOp .eql 3 (.tmp 40) (.tmp 43) 3, type := 4, pos := "l07_store.go:184", after := #[{ on := 26, ground := .data }, { on := 29, ground := .data }, { on := 21, ground := .guard }], guard := some (21, true) }) (v := ?_) rfl (by kernel_rfl) (by kernel_rfl) (by kernel_rfl) (fun _ _ _ h => h) (Or.inl ⟨by rfl, ?_⟩) (by assumption) ?_
          rotate_left 1
          · (intro w' hSw; (try dsimp only at hSw); go_simp; try with_reducible rfl)
          try simp only [Act.put, List.setIfInBounds_toArray, List.set_cons_zero, List.set_cons_succ]
          refine wpAnyH_take (i := 31) (oi := { dst := some 45, op := .pick (.tmp 35) (.tmp 44) (.const (.bool false)), type := 4, pos := "l07_store.go:184", after := #[{ on := 21, ground := .data }, { on := 30, ground := .data }], guard := none }) (v := ?_) rfl (by kernel_rfl) (by kernel_rfl) (by kernel_rfl) (fun _ _ _ h => h) (Or.inl ⟨by rfl, ?_⟩) (by assumption) ?_
          rotate_left 1
          · (intro w' hSw; (try dsimp only at hSw); go_simp; try with_reducible rfl)
          try simp only [Act.put, List.setIfInBounds_toArray, List.set_cons_zero, List.set_cons_succ]
          refine wpAnyH_take (i := 32) (oi := { dst := some 4, op := .assign (.tmp 45), type := 4, pos := "l07_store.go:184", after := #[{ on := 31, ground := .data }, { on := 26, ground := .chain }, { on := 0, ground := .phase }, { on := 1, ground := .phase }, { on := 2, ground := .phase }, { on := 3, ground := .phase }, { on := 4, ground := .phase }, { on := 5, ground := .phase }, { on := 6, ground := .phase }, { on := 7, ground := .phase }, { on := 8, ground := .phase }, { on := 9, ground := .phase }, { on := 10, ground := .phase }, { on := 11, ground := .phase }, { on := 12, ground := .phase }, { on := 13, ground := .phase }, { on := 14, ground := .phase }, { on := 15, ground := .phase }, { on := 16, ground := .phase }, { on := 17, ground := .phase }, { on := 18, ground := .phase }, { on := 19, ground := .phase }, { on := 20, ground := .phase }, { on := 21, ground := .phase }, { on := 22, ground := .phase }, { on := 23, ground := .phase }, { on := 24, ground := .phase }, { on := 25, ground := .phase }, { on := 26, ground := .phase }, { on := 27, ground := .phase }, { on := 28, ground := .phase }, { on := 29, ground := .phase }, { on := 30, ground := .phase }, { on := 31, ground := .phase }], guard := none }) (v := ?_) rfl (by kernel_rfl) (by kernel_rfl) (by kernel_rfl) (fun _ _ _ h => h) (Or.inl ⟨by rfl, ?_⟩) (by assumption) ?_
          rotate_left 1
          · (intro w' hSw; (try dsimp only at hSw); go_simp; try with_reducible rfl)
          try simp only [Act.put, List.setIfInBounds_toArray, List.set_cons_zero, List.set_cons_succ]
          refine wpAnyH_take (i := 33) (oi := { dst := some 5, op := .assign (.const (.int .i64 0)), type := 3, pos := "l07_store.go:184", after := #[{ on := 32, ground := .chain }, { on := 0, ground := .phase }, { on := 1, ground := .phase }, { on := 2, ground := .phase }, { on := 3, ground := .phase }, { on := 4, ground := .phase }, { on := 5, ground := .phase }, { on := 6, ground := .phase }, { on := 7, ground := .phase }, { on := 8, ground := .phase }, { on := 9, ground := .phase }, { on := 10, ground := .phase }, { on := 11, ground := .phase }, { on := 12, ground := .phase }, { on := 13, ground := .phase }, { on := 14, ground := .phase }, { on := 15, ground := .phase }, { on := 16, ground := .phase }, { on := 17, ground := .phase }, { on := 18, ground := .phase }, { on := 19, ground := .phase }, { on := 20, ground := .phase }, { on := 21, ground := .phase }, { on := 22, ground := .phase }, { on := 23, ground := .phase }, { on := 24, ground := .phase }, { on := 25, ground := .phase }, { on := 26, ground := .phase }, { on := 27, ground := .phase }, { on := 28, ground := .phase }, { on := 29, ground := .phase }, { on := 30, ground := .phase }, { on := 31, ground := .phase }, { on := 32, ground := .phase }], guard := none }) (v := ?_) rfl (by kernel_rfl) (by kernel_rfl) (by kernel_rfl) (fun _ _ _ h => h) (Or.inl ⟨by rfl, ?_⟩) (by assumption) ?_
          rotate_left 1
          · (intro w' hSw; (try dsimp only at hSw); go_simp; try with_reducible rfl)
          try simp only [Act.put, List.setIfInBounds_toArray, List.set_cons_zero, List.set_cons_succ]
          refine wpAnyH_done (by kernel_rfl) ?_ _
          clear k2 k3
          go_wp2_with fail
          go_ret2
          exact ⟨rfl, unhide B3⟩
        · obtain rfl : R = false := (unhide HR).trans (sm3 (by rw [unhide HN, unhide HN2]; exact h3))
          subst h1 h2
          have hb3 : ((n : Int) == (n2 : Int)) = false := by rw [beq_eq_false_iff_ne]; omega
          go_wp2_with fail
          go_quiet (fail)
          go_wp2_with fail
          go_ret2
          exact ⟨rfl, below_drewN (unhide B2) _⟩
      · subst h1
        obtain rfl : R = false := (unhide HR).trans (sm2 h2)
        have hb2 : (vt == vt2) = false := by simpa using h2
        go_wp2_with fail
        go_quiet (fail)
        go_wp2_with fail
        go_ret2
        exact ⟨rfl, below_drewN (unhide B2) _⟩
    · obtain rfl : R = false := (unhide HR).trans (sm1 h1)
      have hb1 : (tm == tm2) = false := by simpa using h1
      go_wp2_with fail
      go_quiet (fail)
      go_wp2_with fail
      go_ret2
      exact ⟨rfl, below_drewN (unhide B2) _⟩
  · have HK1 := hide k1.symm
    clear HIS k1
    go_enter Try.func5, Try.ntmps5
    go_wp2_with fail
    refine (sstateok tm vt a cap n l HN hn HSZ false HK1 _ (unhide HRW1)).mono ?_
    rintro e w1 ⟨rfl, hb⟩
    have B1 := hide ((unhide B0).trans (hb.mono (unhide B0).size))
    have A1 := hide ((unhide A0).below hb)
    have C1 := hide ((unhide C0).below hb)
    replace HRW1 := hide ((unhide HRW1).below hb)
    replace HRW2 := hide ((unhide HRW2).below hb)
    clear hb B0 A0 C0
    have ka1 := (unhide A1).S
    have kc1 := (unhide C1).S
    go_wp2_with fail
    go_ret2
    exact ⟨rfl, unhide B1⟩
  · have HK1 := hide k1.symm
    have HK2 := hide k2.symm
    clear HIS k1 k2
    go_enter Try.func5, Try.ntmps5
    go_wp2_with fail
    refine (sstateok tm vt a cap n l HN hn HSZ true HK1 _ (unhide HRW1)).mono ?_
    rintro e w1 ⟨rfl, hb⟩
    have B1 := hide ((unhide B0).trans (hb.mono (unhide B0).size))
    have A1 := hide ((unhide A0).below hb)
    have C1 := hide ((unhide C0).below hb)
    replace HRW1 := hide ((unhide HRW1).below hb)
    replace HRW2 := hide ((unhide HRW2).below hb)
    clear hb B0 A0 C0
    have ka1 := (unhide A1).S
    have kc1 := (unhide C1).S
    go_wp2_with fail
    refine (sstateok tm2 vt2 a2 cap2 n2 m HN2 hn2 HSZ2 false HK2 _ (unhide HRW2)).mono ?_
    rintro e w2 ⟨rfl, hb⟩
    have B2 := hide ((unhide B1).trans (hb.mono (unhide B1).size))
    have A2 := hide ((unhide A1).below hb)
    have C2 := hide ((unhide C1).below hb)
    replace HRW1 := hide ((unhide HRW1).below hb)
    replace HRW2 := hide ((unhide HRW2).below hb)
    clear hb B1 A1 C1
    have ka2 := (unhide A2).S
    have kc2 := (unhide C2).S
    go_wp2_with fail
    go_ret2
    exact ⟨rfl, unhide B2⟩
end Go.Proofs.Ytkpipnccjiahjaa
