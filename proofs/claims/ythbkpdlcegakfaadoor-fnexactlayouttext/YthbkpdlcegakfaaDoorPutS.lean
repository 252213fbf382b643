/- l05Of, l05Put, l05Layout, l05Own: what the specification answers. -/
import Derived.Test.YthbkpdlcegakfaaDoorAtI
import Derived.Test.YthbkpdlcegakfaaDoorSits
import Derived.Test.YthbkpdlcegakfaaDoorOwn3
namespace Go.Proofs.YthbkpdlcegakfaaDoor
open Go.ChangeShapes Go.WideShapes Go.ChangeAt Go.RowKit
set_option maxHeartbeats 2000000 in
set_option maxRecDepth 100000 in
theorem sof (a : Option Addr) (cap : Nat) (l : List Pt) (L : Nat) (HLL : Hid (l.length = L)) (hl : L ≤ 11) : ∀ (t : Tr) (k : Nat) (w : World), Sits l k t → RowV w a (cPt l) →
    Calls Tryd.prog 12 #[.agg #[.slice a L cap], .int .i64 (k : Int)] w fun e w' => ∃ b bs, e = .returned (.pointer (some ⟨b, 0, none⟩)) ∧ TreeNew sBx w w' t b bs ∧ Below w.heap.size w w' := by
  intro t
  induction t using Tr.ind with
  | pane n =>
    intro k w hS hr
    obtain ⟨hpk, hkl⟩ := hS.pane
    obtain ⟨b, off, ha, hblt, hc⟩ := hr.at (by rw [cPt_len, unhide HLL]; rw [unhide HLL] at hkl; omega)
    subst ha
    obtain ⟨x0, x1, x2, x3, x4⟩ := rowPt hc k hkl
    have hpk' : l[k] = ⟨n, false, 0, -1, -1⟩ := by rw [List.getElem?_eq_getElem hkl] at hpk; injection hpk
    rw [hpk'] at x0 x1 x2 x3 x4
    rw [unhide HLL] at hkl
    have hlt' : (k : Int) < (L : Int) := by omega
    have hk0 : (0 : Int) ≤ (k : Int) := by omega
    have g : ∀ (o : Obj) (j : Nat), (w.alloc o).cell? ⟨b, j, none⟩ = w.cell? ⟨b, j, none⟩ := fun o j => World.cell?_alloc_lt w o ⟨b, j, none⟩ hblt
    have y0 : ∀ o, (w.alloc o).cell? ⟨b, off + k * 5, none⟩ = some (.int .i64 n) := fun o => (g o _).trans x0
    have y1 : ∀ o, (w.alloc o).cell? ⟨b, off + k * 5 + 1, none⟩ = some (.bool false) := fun o => (g o _).trans x1
    have y2 : ∀ o, (w.alloc o).cell? ⟨b, off + k * 5 + 2, none⟩ = some (.int .i64 0) := fun o => (g o _).trans x2
    have y3 : ∀ o, (w.alloc o).cell? ⟨b, off + k * 5 + 3, none⟩ = some (.int .i64 (-1)) := fun o => (g o _).trans x3
    have y4 : ∀ o, (w.alloc o).cell? ⟨b, off + k * 5 + 4, none⟩ = some (.int .i64 (-1)) := fun o => (g o _).trans x4
    clear hc hpk hpk' g x0 x1 x2 x3 x4 hr hS
    go_enter Tryd.func12, Tryd.ntmps12
    go_wp2_with fail
    go_ret
    have ht := TreeNew.leaf (X := sBx) (w := w) (w1 := (w.alloc (Obj.cells #[.slice (some ⟨b, off, none⟩) L cap] 30)).alloc (Obj.cells #[.int .i64 n, .bool false, .int .i64 0, .int .i64 (-1), .int .i64 (-1)] 49)) (n := n) (t := 51) (by simp; omega)
    simp only [World.size_alloc] at ht
    exact ⟨_, _, rfl, ht, Go.Joins.below_alloc3 w _ _ _⟩
  | split r s l1 l2 ihl ihr =>
    intro k w hS hr
    obtain ⟨hpk, hkl, hS1, hS2⟩ := hS.split
    obtain ⟨b, off, ha, hblt, hc⟩ := hr.at (by rw [cPt_len, unhide HLL]; rw [unhide HLL] at hkl; omega)
    subst ha
    obtain ⟨x0, x1, x2, x3, x4⟩ := rowPt hc k hkl
    have hpk' : l[k] = ⟨0, r, s, ((k + 1 : Nat) : Int), ((k + 1 + l1.cnt : Nat) : Int)⟩ := by rw [List.getElem?_eq_getElem hkl] at hpk; injection hpk
    rw [hpk'] at x0 x1 x2 x3 x4
    rw [unhide HLL] at hkl
    obtain ⟨k1, hk1⟩ : ∃ k1, k1 = k + 1 := ⟨_, rfl⟩
    obtain ⟨m, hm⟩ : ∃ m, m = k1 + l1.cnt := ⟨_, rfl⟩
    rw [← hk1] at hS1 hS2 x3 x4
    rw [← hm] at hS2 x4
    have hlt' : (k : Int) < (L : Int) := by omega
    have hk0 : (0 : Int) ≤ (k : Int) := by omega
    have hk1n : ¬ (k1 : Int) = -1 := by omega
    have g : ∀ (o : Obj) (j : Nat), (w.alloc o).cell? ⟨b, j, none⟩ = w.cell? ⟨b, j, none⟩ := fun o j => World.cell?_alloc_lt w o ⟨b, j, none⟩ hblt
    have y0 : ∀ o, (w.alloc o).cell? ⟨b, off + k * 5, none⟩ = some (.int .i64 0) := fun o => (g o _).trans x0
    have y1 : ∀ o, (w.alloc o).cell? ⟨b, off + k * 5 + 1, none⟩ = some (.bool r) := fun o => (g o _).trans x1
    have y2 : ∀ o, (w.alloc o).cell? ⟨b, off + k * 5 + 2, none⟩ = some (.int .i64 s) := fun o => (g o _).trans x2
    have y3 : ∀ o, (w.alloc o).cell? ⟨b, off + k * 5 + 3, none⟩ = some (.int .i64 (k1 : Int)) := fun o => (g o _).trans x3
    have y4 : ∀ o, (w.alloc o).cell? ⟨b, off + k * 5 + 4, none⟩ = some (.int .i64 (m : Int)) := fun o => (g o _).trans x4
    have HR := hide hr
    have HI := hide ihl
    have HJ := hide ihr
    have HS1 := hide hS1
    have HS2 := hide hS2
    have HB1 := hide (Go.Joins.below_alloc2 w (.cells #[.slice (some ⟨b, off, none⟩) L cap] 30) (.cells #[.int .i64 0, .bool r, .int .i64 s, .int .i64 (k1 : Int), .int .i64 (m : Int)] 49))
    have BP := hide ((BF.new w #[.slice (some ⟨b, off, none⟩) L cap] 30).alloc (.cells #[.int .i64 0, .bool r, .int .i64 s, .int .i64 (k1 : Int), .int .i64 (m : Int)] 49))
    have BQ := hide (BF.new (w.alloc (.cells #[.slice (some ⟨b, off, none⟩) L cap] 30)) #[.int .i64 0, .bool r, .int .i64 s, .int .i64 (k1 : Int), .int .i64 (m : Int)] 49)
    rw [show (w.alloc (.cells #[.slice (some ⟨b, off, none⟩) L cap] 30)).heap.size = w.heap.size + 1 from by simp] at BQ
    have HZ1 : Hid (w.heap.size ≤ ((w.alloc (.cells #[.slice (some ⟨b, off, none⟩) L cap] 30)).alloc (.cells #[.int .i64 0, .bool r, .int .i64 s, .int .i64 (k1 : Int), .int .i64 (m : Int)] 49)).heap.size) := (unhide HB1).size
    clear hc hpk hpk' g x0 x1 x2 x3 x4 hr hS hk1 hm ihl ihr hS1 hS2
    go_enter Tryd.func12, Tryd.ntmps12
    go_wp2_with fail
    generalize (w.alloc (Obj.cells #[.slice (some ⟨b, off, none⟩) L cap] 30)).alloc (Obj.cells #[.int .i64 0, .bool r, .int .i64 s, .int .i64 (k1 : Int), .int .i64 (m : Int)] 49) = w1 at HB1 BP BQ HZ1 ⊢
    have k1' : (∀ o, w1.cell? ⟨w.heap.size, o, none⟩ = (#[.slice (some ⟨b, off, none⟩) L cap] : Array Value)[o]?) ∧ (∀ o, w1.cell? ⟨w.heap.size + 1, o, none⟩ = (#[.int .i64 0, .bool r, .int .i64 s, .int .i64 (k1 : Int), .int .i64 (m : Int)] : Array Value)[o]?) := ⟨(unhide BP).S, (unhide BQ).S⟩
    clear y0 y1 y2 y3 y4
    refine wp_region_held_drew (S := fun w' => (∀ o, w'.cell? ⟨w.heap.size, o, none⟩ = (#[.slice (some ⟨b, off, none⟩) L cap] : Array Value)[o]?) ∧ (∀ o, w'.cell? ⟨w.heap.size + 1, o, none⟩ = (#[.int .i64 0, .bool r, .int .i64 s, .int .i64 (k1 : Int), .int .i64 (m : Int)] : Array Value)[o]?)) (by kernel_rfl) k1' (fun hHeld => ?_)
    refine wpAnyH_take (i := 0) (oi := { dst := some 18, op := .fieldAddr 49 (.tmp 5) 2, type := 0, pos := "l05_layout.go:100", after := #[], guard := none }) (v := ?_) rfl (by kernel_rfl) (by kernel_rfl) (by kernel_rfl) (fun _ _ _ h => h) (Or.inl ⟨by rfl, ?_⟩) (by assumption) ?_
    rotate_left 1
    · (intro w' hSw; (try dsimp only at hSw); go_simp; try with_reducible rfl)
    try simp only [Act.put, List.setIfInBounds_toArray, List.set_cons_zero, List.set_cons_succ]
    refine wpAnyH_take (i := 1) (oi := { dst := some 19, op := .load 3 (.tmp 18), type := 3, pos := "l05_layout.go:100", after := #[{ on := 0, ground := .data }], guard := none }) (v := ?_) rfl (by kernel_rfl) (by kernel_rfl) (by kernel_rfl) (fun _ _ _ h => h) (Or.inl ⟨by rfl, ?_⟩) (by assumption) ?_
    rotate_left 1
    · (intro w' hSw; (try dsimp only at hSw); go_simp; try with_reducible rfl)
    try simp only [Act.put, List.setIfInBounds_toArray, List.set_cons_zero, List.set_cons_succ]
    refine wpAnyH_take (i := 2) (oi := { dst := some 20, op := .fieldAddr 49 (.tmp 5) 1, type := 0, pos := "l05_layout.go:100", after := #[], guard := none }) (v := ?_) rfl (by kernel_rfl) (by kernel_rfl) (by kernel_rfl) (fun _ _ _ h => h) (Or.inl ⟨by rfl, ?_⟩) (by assumption) ?_
    rotate_left 1
    · (intro w' hSw; (try dsimp only at hSw); go_simp; try with_reducible rfl)
    try simp only [Act.put, List.setIfInBounds_toArray, List.set_cons_zero, List.set_cons_succ]
    refine wpAnyH_take (i := 3) (oi := { dst := some 21, op := .load 4 (.tmp 20), type := 4, pos := "l05_layout.go:100", after := #[{ on := 2, ground := .data }], guard := none }) (v := ?_) rfl (by kernel_rfl) (by kernel_rfl) (by kernel_rfl) (fun _ _ _ h => h) (Or.inl ⟨by rfl, ?_⟩) (by assumption) ?_
    rotate_left 1
    · (intro w' hSw; (try dsimp only at hSw); go_simp; try with_reducible rfl)
    try simp only [Act.put, List.setIfInBounds_toArray, List.set_cons_zero, List.set_cons_succ]
    refine wpAnyH_take (i := 4) (oi := { dst := some 22, op := .load 30 (.tmp 2), type := 30, pos := "l05_layout.go:100", after := #[], guard := none }) (v := ?_) rfl (by kernel_rfl) (by kernel_rfl) (by kernel_rfl) (fun _ _ _ h => h) (Or.inl ⟨by rfl, ?_⟩) (by assumption) ?_
    rotate_left 1
    · (intro w' hSw; (try dsimp only at hSw); go_simp; try with_reducible rfl)
    try simp only [Act.put, List.setIfInBounds_toArray, List.set_cons_zero, List.set_cons_succ]
    refine wpAnyH_take (i := 5) (oi := { dst := some 23, op := .fieldAddr 49 (.tmp 5) 3, type := 0, pos := "l05_layout.go:100", after := #[], guard := none }) (v := ?_) rfl (by kernel_rfl) (by kernel_rfl) (by kernel_rfl) (fun _ _ _ h => h) (Or.inl ⟨by rfl, ?_⟩) (by assumption) ?_
    rotate_left 1
    · (intro w' hSw; (try dsimp only at hSw); go_simp; try with_reducible rfl)
    try simp only [Act.put, List.setIfInBounds_toArray, List.set_cons_zero, List.set_cons_succ]
    refine wpAnyH_take (i := 6) (oi := { dst := some 24, op := .load 3 (.tmp 23), type := 3, pos := "l05_layout.go:100", after := #[{ on := 5, ground := .data }], guard := none }) (v := ?_) rfl (by kernel_rfl) (by kernel_rfl) (by kernel_rfl) (fun _ _ _ h => h) (Or.inl ⟨by rfl, ?_⟩) (by assumption) ?_
    rotate_left 1
    · (intro w' hSw; (try dsimp only at hSw); go_simp; try with_reducible rfl)
    try simp only [Act.put, List.setIfInBounds_toArray, List.set_cons_zero, List.set_cons_succ]
    refine wpAnyH_take (i := 8) (oi := { dst := some 26, op := .load 30 (.tmp 2), type := 30, pos := "l05_layout.go:100", after := #[], guard := none }) (v := ?_) rfl (by kernel_rfl) (by kernel_rfl) (by kernel_rfl) (fun _ _ _ h => h) (Or.inl ⟨by rfl, ?_⟩) (by assumption) ?_
    rotate_left 1
    · (intro w' hSw; (try dsimp only at hSw); go_simp; try with_reducible rfl)
    try simp only [Act.put, List.setIfInBounds_toArray, List.set_cons_zero, List.set_cons_succ]
    refine wpAnyH_take (i := 9) (oi := { dst := some 27, op := .fieldAddr 49 (.tmp 5) 4, type := 0, pos := "l05_layout.go:100", after := #[], guard := none }) (v := ?_) rfl (by kernel_rfl) (by kernel_rfl) (by kernel_rfl) (fun _ _ _ h => h) (Or.inl ⟨by rfl, ?_⟩) (by assumption) ?_
    rotate_left 1
    · (intro w' hSw; (try dsimp only at hSw); go_simp; try with_reducible rfl)
    try simp only [Act.put, List.setIfInBounds_toArray, List.set_cons_zero, List.set_cons_succ]
    refine wpAnyH_take (i := 10) (oi := { dst := some 28, op := .load 3 (.tmp 27), type := 3, pos := "l05_layout.go:100", after := #[{ on := 9, ground := .data }], guard := none }) (v := ?_) rfl (by kernel_rfl) (by kernel_rfl) (by kernel_rfl) (fun _ _ _ h => h) (Or.inl ⟨by rfl, ?_⟩) (by assumption) ?_
    rotate_left 1
    · (intro w' hSw; (try dsimp only at hSw); go_simp; try with_reducible rfl)
    try simp only [Act.put, List.setIfInBounds_toArray, List.set_cons_zero, List.set_cons_succ]
    refine wpAnyH_ready (rs := [7]) (by kernel_rfl) (by simp) ?_
    refine AllReadyH.cons (o := { dst := some 25, op := .call { callee := .value (.func 12), args := #[.tmp 22, .tmp 24], argTypes := #[30, 3] }, type := 37, pos := "l05_layout.go:100", after := #[{ on := 4, ground := .data }, { on := 6, ground := .data }], guard := none }) rfl (fun K hK => ?_) AllReadyH.nil
    go_simp
    refine (unhide HI k1 _ (unhide HS1) ((unhide HR).below (unhide HB1).drew)).mono ?_
    rintro e w2 ⟨bl, Ls, rfl, ht2, hb2⟩
    have P2 := hide ((unhide BP).drew.below hb2)
    have Q2 := hide ((unhide BQ).drew.below hb2)
    have k2 : (∀ o, w2.cell? ⟨w.heap.size, o, none⟩ = (#[.slice (some ⟨b, off, none⟩) L cap] : Array Value)[o]?) ∧ (∀ o, w2.cell? ⟨w.heap.size + 1, o, none⟩ = (#[.int .i64 0, .bool r, .int .i64 s, .int .i64 (k1 : Int), .int .i64 (m : Int)] : Array Value)[o]?) := ⟨(unhide P2).S, (unhide Q2).S⟩
    have HB2 := hide ((unhide HB1).trans ((below_undrew hb2).mono (unhide HB1).size))
    have HT2 : Hid (TreeNew sBx w1 w2 l1 bl Ls) := ht2
    have HBa := hide (below_undrew hb2)
    clear ht2 hb2
    go_wp2_with fail
    refine hK.out _ _ ?_ (fun hHeld7 => ?_)
    · exact k2
    clear hK K
    try simp only [Act.put, List.setIfInBounds_toArray, List.set_cons_zero, List.set_cons_succ]
    refine wpAnyH_ready (rs := [11]) (by kernel_rfl) (by simp) ?_
    refine AllReadyH.cons (o := { dst := some 29, op := .call { callee := .value (.func 12), args := #[.tmp 26, .tmp 28], argTypes := #[30, 3] }, type := 37, pos := "l05_layout.go:100", after := #[{ on := 8, ground := .data }, { on := 10, ground := .data }, { on := 7, ground := .chain }], guard := none }) rfl (fun K hK => ?_) AllReadyH.nil
    go_simp
    refine (unhide HJ m _ (unhide HS2) ((unhide HR).below (unhide HB2))).mono ?_
    rintro e w3 ⟨br, Rs, rfl, ht3, hb3⟩
    have P3 := hide ((unhide P2).below hb3)
    have Q3 := hide ((unhide Q2).below hb3)
    have k3 : (∀ o, w3.cell? ⟨w.heap.size, o, none⟩ = (#[.slice (some ⟨b, off, none⟩) L cap] : Array Value)[o]?) ∧ (∀ o, w3.cell? ⟨w.heap.size + 1, o, none⟩ = (#[.int .i64 0, .bool r, .int .i64 s, .int .i64 (k1 : Int), .int .i64 (m : Int)] : Array Value)[o]?) := ⟨(unhide P3).S, (unhide Q3).S⟩
    have HB3 := hide ((unhide HB2).trans (hb3.mono (unhide HB2).size))
    have HTN := hide (TreeNew.node (t := 51) (r := r) (s := s) (unhide HZ1) (unhide HT2) ht3 hb3)
    clear ht3 hb3
    go_wp2_with fail
    refine hK.out _ _ ?_ (fun hHeld11 => ?_)
    · exact k3
    clear hK K
    try simp only [Act.put, List.setIfInBounds_toArray, List.set_cons_zero, List.set_cons_succ]
    refine wpAnyH_take (i := 12) (oi := { dst := some 30, op := .build 51 #[(1, .tmp 19), (2, .tmp 21), (4, .tmp 25), (5, .tmp 29)], type := 51, pos := "l05_layout.go:100", after := #[{ on := 1, ground := .data }, { on := 3, ground := .data }, { on := 7, ground := .data }, { on := 11, ground := .data }], guard := none }) (v := ?_) rfl (by kernel_rfl) (by kernel_rfl) (by kernel_rfl) (fun _ _ _ h => h) (Or.inl ⟨by rfl, ?_⟩) (by assumption) ?_
    rotate_left 1
    · (intro w' hSw; (try dsimp only at hSw); go_simp; try with_reducible rfl)
    try simp only [Act.put, List.setIfInBounds_toArray, List.set_cons_zero, List.set_cons_succ]
    refine wpAnyH_ready (rs := [13]) (by kernel_rfl) (by simp) ?_
    refine AllReadyH.cons (o := { dst := some 31, op := .box 51 (.tmp 30), type := 37, pos := "l05_layout.go:100", after := #[{ on := 12, ground := .data }], guard := none }) rfl (fun K hK => ?_) AllReadyH.nil
    have P4 := hide ((unhide P3).alloc (.cells #[.int .i64 0, .int .i64 s, .bool r, .bool false, .pointer (some ⟨bl, 0, none⟩), .pointer (some ⟨br, 0, none⟩)] 51))
    have Q4 := hide ((unhide Q3).alloc (.cells #[.int .i64 0, .int .i64 s, .bool r, .bool false, .pointer (some ⟨bl, 0, none⟩), .pointer (some ⟨br, 0, none⟩)] 51))
    have HB4 := hide ((unhide HB3).alloc (unhide HB3).size (.cells #[.int .i64 0, .int .i64 s, .bool r, .bool false, .pointer (some ⟨bl, 0, none⟩), .pointer (some ⟨br, 0, none⟩)] 51))
    go_simp
    refine hK.out _ _ ?_ (fun hHeld13 => ?_)
    · exact ⟨(unhide P4).S, (unhide Q4).S⟩
    clear hK K
    try simp only [Act.put, List.setIfInBounds_toArray, List.set_cons_zero, List.set_cons_succ]
    refine wpAnyH_take (i := 14) (oi := { dst := some 4, op := .assign (.tmp 31), type := 37, pos := "l05_layout.go:100", after := #[{ on := 13, ground := .data }, { on := 11, ground := .chain }, { on := 0, ground := .phase }, { on := 1, ground := .phase }, { on := 2, ground := .phase }, { on := 3, ground := .phase }, { on := 4, ground := .phase }, { on := 5, ground := .phase }, { on := 6, ground := .phase }, { on := 7, ground := .phase }, { on := 8, ground := .phase }, { on := 9, ground := .phase }, { on := 10, ground := .phase }, { on := 11, ground := .phase }, { on := 12, ground := .phase }, { on := 13, ground := .phase }], guard := none }) (v := ?_) rfl (by kernel_rfl) (by kernel_rfl) (by kernel_rfl) (fun _ _ _ h => h) (Or.inl ⟨by rfl, ?_⟩) (by assumption) ?_
    rotate_left 1
    · (intro w' hSw; (try dsimp only at hSw); go_simp; try with_reducible rfl)
    try simp only [Act.put, List.setIfInBounds_toArray, List.set_cons_zero, List.set_cons_succ]
    refine wpAnyH_done (by kernel_rfl) ?_ _
    go_wp2_with fail
    go_ret
    exact ⟨_, _, rfl, unhide HTN, unhide HB4⟩
end Go.Proofs.YthbkpdlcegakfaaDoor
